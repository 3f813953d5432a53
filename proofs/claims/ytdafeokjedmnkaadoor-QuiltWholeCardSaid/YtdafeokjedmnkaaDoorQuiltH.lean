/-
  A quilt: store.
-/
import Derived.Test.YtdafeokjedmnkaaDoorQuiltG
namespace Go.Proofs.YtdafeokjedmnkaaDoor
open Go.RowKit Go.Maps
set_option linter.unusedVariables false
set_option linter.unusedSimpArgs false
theorem StQ.held {w W : World} {base g n : Nat} {M : Value} {f : Int → Option Int} {rd wh hi hd : Int} {en : Bool} (h : StQ w base g n M f rd wh hi hd en W) (hg : base ≤ g) (x : Int) : StQ w base g n M f rd wh hi x en (W.setCell ⟨g, 4, none⟩ (.int .i64 x)) := by
  refine ⟨Blk.set_ h.q 4 _, ?_, h.keep.trans (keepT_set h.q 4 _ (fun h => by cases h)), h.below.setCell (p := ⟨g, 4, none⟩) hg _⟩
  rcases h.pat with h1 | ⟨B, pt, h1, h2⟩
  · exact .inl h1
  · refine .inr ⟨B, pt, h1, h2.grown (gb_set (gb_refl _ _) (p := ⟨g, 4, none⟩) rfl _) (by intro e; injection e with e; exact h2.map.ne h.q e.symm) (fun j gp hj e => ?_)⟩
    injection e with e
    obtain ⟨cs, hb⟩ := h2.block hj
    exact Blk.ne_ hb h.q (by decide) e
theorem fput_take (f : Int → Option Int) (off : Int) (p : List Int) (m : Nat) : fput f off (p.take m) m = fput f off p m := by
  funext x
  by_cases h : off ≤ x ∧ x < off + m ∧ f x = none
  · rw [fput_at h.1 h.2.1 h.2.2, fput_at h.1 h.2.1 h.2.2, List.getElem?_take, if_pos (by omega)]
  · unfold fput
    rw [if_neg h, if_neg h]
theorem StQ.mono {w W : World} {base g n n' : Nat} {M : Value} {f : Int → Option Int} {rd wh hi hd : Int} {en : Bool} (h : StQ w base g n M f rd wh hi hd en W) (hn : n ≤ n') : StQ w base g n' M f rd wh hi hd en W := by
  refine ⟨h.q, ?_, h.keep, h.below⟩
  rcases h.pat with h1 | ⟨B, pt, h1, h2⟩
  · exact .inl h1
  · exact .inr ⟨B, pt, h1, h2.map.mono hn, h2.bge, h2.ent, h2.inj, h2.has⟩
theorem news_len (f : Int → Option Int) (off : Int) : ∀ k : Nat, (news f off k).length ≤ k
  | 0 => Nat.le_refl _
  | k + 1 => by
    rw [news_s, List.length_append]
    have := news_len f off k
    split <;> simp <;> omega
theorem patch_st (w : World) (base g n : Nat) (M : Value) (f : Int → Option Int) (rd wh hi hd : Int) (en : Bool) (number : Int) (W : World) (h : StQ w base g n M f rd wh hi hd en W) (hw : (Lit.int .u64 number).wf = true) (hn : n < maxLen) (hbase : base ≤ w.heap.size) (hg : base ≤ g) :
    Calls Tryd.prog 32 #[.pointer (some ⟨g, 0, none⟩), .int .u64 number] W fun r W' => ∃ gp B pt', r = .returned (.pointer (some ⟨gp, 0, none⟩)) ∧ StP w base g (n + 1) f rd wh hi hd en number gp B pt' W' :=
  (patch_any g base n M f rd wh hi hd en number W h.q h.pat hw hn (Nat.le_trans hbase h.below.size) hg).mono fun r W' ⟨gp, B, pt', h1, h2⟩ => ⟨gp, B, pt', h1, h2.q, h2.pat, h2.at_, h.keep.trans h2.keep, h.below.trans h2.below⟩
theorem fill_st (w : World) (base g n : Nat) (f : Int → Option Int) (rd wh hi hd : Int) (en : Bool) (number : Int) (gp B : Nat) (pt : Int → Option Nat) (at_ : Nat) (A : Option Addr) (c : Nat) (p : List Int) (W : World) (h : StP w base g n f rd wh hi hd en number gp B pt W)
    (hs : Src w base g A c p) (hr : rd ≤ 64 * number + at_) (hat : at_ + p.length ≤ 64) (hbase : base ≤ w.heap.size) :
    Calls Tryd.prog 33 #[.pointer (some ⟨gp, 0, none⟩), .int .i64 at_, .slice A p.length c] W fun r W' => r = .returned (.int .i64 ((news f (64 * number + at_) p.length).length : Nat)) ∧ StQ w base g n (.map (some B)) (fput f (64 * number + at_) p p.length) rd wh hi hd en W' := by
  obtain ⟨j0, hb0, cc, m, H, bs, hp, hc⟩ := h.pat.ent number gp h.at_
  have hsW := hs.keep h.keep h.below
  have hne : ∀ ad, A = some ad → ad.block ≠ gp := fun ad e => by
    rcases hsW.row ad e with h0 | ⟨T, cs, fr, hbl, hT, _⟩
    · omega
    · exact Row.ne_ hbl hp.blk.toRow hT
  refine (fill_any gp cc m H bs at_ A c p W hp hsW.rd hs.by_ hne hat).mono ?_
  rintro r W' ⟨h1, ⟨H', bs', h2⟩, h3⟩
  have e1 : newK cc at_ p.length = (news f (64 * number + at_) p.length).length := newK_news p.length (fun i hi => by
    have := hc (at_ + i) (by omega) (by omega)
    rw [this]
    congr 1
    omega)
  have hqg : g ≠ gp := Blk.ne_ h.q hp.blk (by decide)
  refine ⟨by rw [h1, e1], h.q.grown h3 (by intro e; injection e with e; exact hqg e), .inr ⟨B, pt, rfl, h.pat.filled h.at_ hc hr hat h2 h3⟩, h.keep.trans (keepT_grow h.q h3 (by intro e; injection e with e; exact hqg e) (fun q t cs fr h4 h5 h6 e => by injection e with e; exact Row.ne_ h6 hp.blk.toRow h5 e) (fun q es ck h4 h5 e => by
    injection e with e
    subst e
    rw [show W.heap[q]? = _ from hp.blk] at h4
    cases h4)), below_gb h.below h3 hb0 (Nat.le_trans hbase h.below.size)⟩

set_option maxHeartbeats 3200000 in
theorem store_any (w : World) (base g n0 : Nat) (M : Value) (f : Int → Option Int) (rd wh hi hd : Int) (en : Bool) (off : Int) (A : Option Addr) (c : Nat) (p : List Int) (h : StQ w base g n0 M f rd wh hi hd en w) (hs : Src w base g A c p)
    (hbase : base ≤ w.heap.size) (hg : base ≤ g) (h0 : 0 ≤ rd) (hr : p.length = 0 ∨ rd ≤ off) (ho : off + p.length ≤ 4611686018427387903) (hl : p.length ≤ 100000) (hn : n0 ≤ 1000000000) (hd0 : 0 ≤ hd) (hd1 : hd ≤ 4611686018427387903) :
    Calls Tryd.prog 30 #[.pointer (some ⟨g, 0, none⟩), .int .u64 off, .slice A p.length c] w fun r w' => r = .returned (.tuple #[]) ∧ ∃ M', StQ w base g (n0 + p.length) M' (fput f off p p.length) rd wh hi (hd + (news f off p.length).length) en w' := by
  have H := Lib.hid h
  have HS := Lib.hid hs
  clear h hs
  go_enter Tryd.func30, Tryd.ntmps30
  go_wp2_with fail
  go_loopw [1, 2] (fun o q wr => ∃ (k : Nat) (A' : Option Addr) (c' : Nat) (M' : Value), k ≤ p.length ∧ o = .int .u64 (off + k) ∧ q = .slice A' (p.length - k) c' ∧ Hid (Src w base g A' c' (p.drop k)) ∧ Hid (StQ w base g (n0 + k) M' (fput f off p k) rd wh hi (hd + (news f off k).length) en wr)) (fun o _ _ => (off + p.length - intOf o).toNat)
  case atStart => exact ⟨0, A, c, M, by omega, by simp, by simp, by simpa using HS, by rw [fput_0]; simpa [news] using H⟩
  case round =>
    obtain ⟨k, A', c', M', hk, rfl, rfl, S1, Q1⟩ := hrel
    clear H HS
    have hnl : (news f off k).length ≤ k := news_len f off k
    by_cases hlt : k < p.length
    · obtain ⟨P, hP⟩ : ∃ P, P = p.drop k := ⟨_, rfl⟩
      have hPl : P.length = p.length - k := by rw [hP]; simp
      have hP0 : 0 < P.length := by omega
      rw [← hPl]
      have hPs := Lib.hid (show Src w base g A' c' P by rw [hP]; exact S1.out)
      have hle := hPs.out.le
      obtain ⟨O, hO⟩ : ∃ O, O = off + (k : Int) := ⟨_, rfl⟩
      rw [← hO]
      have hO0 : 0 ≤ O := by omega
      have hO1 : O + P.length ≤ 4611686018427387903 := by omega
      obtain ⟨at_, hat⟩ : ∃ at_ : Nat, (at_ : Int) = O % 64 := ⟨(O % 64).toNat, by omega⟩
      have hat64 : at_ < 64 := by omega
      obtain ⟨m, hm⟩ : ∃ m : Nat, m = min P.length (64 - at_) := ⟨_, rfl⟩
      have hm1 : m ≤ P.length := by omega
      have hm2 : at_ + m ≤ 64 := by omega
      have hm3 : 1 ≤ m := by omega
      have wat : IntKind.i64.wrap (O % 64) = (at_ : Int) := by rw [← hat]; exact IntWalk.i64_in _ (by omega)
      have w64 : IntKind.i64.wrap (64 - (at_ : Int)) = ((64 - at_ : Nat) : Int) := by rw [IntWalk.i64_in _ (by omega)]; omega
      have Z1 : (if (P.length : Int) < ((64 - at_ : Nat) : Int) then (P.length : Int) else ((64 - at_ : Nat) : Int)) = (m : Int) := by split <;> omega
      have Z2 : (if ((64 - at_ : Nat) : Int) < (P.length : Int) then ((64 - at_ : Nat) : Int) else (P.length : Int)) = (m : Int) := by split <;> omega
      have Z3 : (if P.length < 64 - at_ then (P.length : Int) else ((64 - at_ : Nat) : Int)) = (m : Int) := by split <;> omega
      have Z4 : (if 64 - at_ < P.length then ((64 - at_ : Nat) : Int) else (P.length : Int)) = (m : Int) := by split <;> omega
      obtain ⟨R64, hR64⟩ : ∃ R, R = 64 - at_ := ⟨_, rfl⟩
      rw [← hR64] at w64 Z1 Z2 Z3 Z4
      have wm : IntKind.u64.wrap (m : Int) = (m : Int) := IntWalk.u64_in _ (by omega)
      have wO : IntKind.u64.wrap (O + (m : Int)) = O + (m : Int) := IntWalk.u64_in _ (by omega)
      have SU := slice_upto_is A' c' P.length m .i64 (m : Int) rfl hm1 hle
      have SF := slice_from_is A' c' P.length m .i64 (m : Int) rfl hm1 hle
      have hj : 64 * (O / 64) + (at_ : Int) = O := by omega
      have wj : IntKind.u64.wrap (O.tdiv 64) = O / 64 := by rw [Int.tdiv_eq_ediv_of_nonneg hO0]; exact IntWalk.u64_in _ (by omega)
      have hjw : (Lit.int .u64 (O / 64)).wf = true := WalkArith.wf_u64 (by omega)
      have HP := Lib.hid (fun W (hh : StQ w base g (n0 + k) M' (fput f off p k) rd wh hi (hd + (news f off k).length) en W) => patch_st w base g (n0 + k) M' (fput f off p k) rd wh hi (hd + (news f off k).length) en (O / 64) W hh hjw (by unfold maxLen; omega) hbase hg)
      have HF := fun W gp B pt (hh : StP w base g (n0 + k + 1) (fput f off p k) rd wh hi (hd + (news f off k).length) en (O / 64) gp B pt W) => fill_st w base g (n0 + k + 1) (fput f off p k) rd wh hi (hd + (news f off k).length) en (O / 64) gp B pt at_ A' c' (P.take m) W hh (hPs.out.upto hm1) (by omega) (by simp; omega) hbase
      rw [show (P.take m).length = m by simp [hm1], hj] at HF
      have HHF := Lib.hid HF
      have HPk := Lib.hid hP
      have HOk := Lib.hid hO
      have HAt := Lib.hid hat
      have HNL := Lib.hid hnl
      have HPL := Lib.hid hPl
      obtain ⟨hk', hhk⟩ : ∃ x, x = hd + ((news f off k).length : Int) := ⟨_, rfl⟩
      obtain ⟨cnt, hcnt⟩ : ∃ x : Nat, x = (news (fput f off p k) O m).length := ⟨_, rfl⟩
      have hcm : cnt ≤ m := by rw [hcnt]; exact news_len _ _ _
      rw [← hhk] at HP HHF Q1
      rw [← hcnt] at HHF
      have wh1 : IntKind.i64.wrap (hk' + (cnt : Int)) = hk' + (cnt : Int) := IntWalk.i64_in _ (by omega)
      have c4 := Q1.out.q.cell 4
      have c4' := (Q1.out.drewN 1).q.cell 4
      simp [QV] at c4 c4'
      have HHK := Lib.hid hhk
      have HCN := Lib.hid hcnt
      clear HF hj hat hm hR64 hP hO hnl hhk hcnt hPl
      go_wp2_with fail
      have s1 : StQ w base g (n0 + k) M' (fput f off p k) rd wh hi hk' en wr.drew := Q1.out.drewN 1
      clear c4 Q1
      go_region_with (first
        | (go_at_call 32; (with_reducible refine (HP.out _ (by assumption)).mono ?_); rintro e w6 ⟨gp, B, pt, rfl, s6⟩; have c6 := s6.q.cell 4; simp [QV] at c6)
        | (go_at_call 33; (with_reducible refine (HHF.out _ _ _ _ (by assumption)).mono ?_); rintro e w7 ⟨rfl, s7⟩; have c7 := s7.q.cell 4; have f7 := s7.q.frozen 4; simp [QV] at c7))
      all_goals (
        have Q8 := Lib.hid ((s7.held hg (hk' + (cnt : Int))).mono (show n0 + k + 1 ≤ n0 + (k + m) by omega))
        clear s1 s6 s7 c4' c6 c7 f7 HP HHF
        generalize (w7.setCell ⟨g, 4, none⟩ (.int .i64 (hk' + (cnt : Int)))) = w8 at Q8 ⊢
        go_wp2_with fail
        go_roundw
        case rel =>
          have e0 : off + ((k + m : Nat) : Int) = O + (m : Int) := by rw [HOk.out]; omega
          have e1 : p.length - (k + m) = P.length - m := by rw [HPL.out]; omega
          have e2 : p.drop (k + m) = P.drop m := by rw [HPk.out, List.drop_drop]
          have e3 : fput f off p (k + m) = fput (fput f off p k) O (P.take m) m := by
            rw [fput_take, HPk.out, HOk.out, fput_add f off p k m (by omega)]
          have e4 : hd + ((news f off (k + m)).length : Int) = hk' + (cnt : Int) := by
            rw [news_add f off p k m, List.length_append, ← HOk.out, HHK.out, HCN.out]
            omega
          refine ⟨k + m, (if c' = m then A' else A'.map (·.add (m * 1))), c' - m, .map (some B), by have := HPL.out; omega, by rw [e0], by rw [e1, Nat.mul_one], Lib.hid (by rw [e2]; exact hPs.out.from_ hm1), Lib.hid ?_⟩
          rw [e3, e4]
          exact Q8.out
        case measure => have := HPL.out; have := HOk.out; simp [intOf]; omega)
    · obtain rfl : k = p.length := by omega
      have hd0 : p.length - p.length = 0 := by omega
      rw [hd0]
      clear hd0
      go_wp2_with fail
      exact bodyPost_end (v := .tuple #[]) (results_none (by rfl) _ _ _) (by rfl) ⟨rfl, _, Q1.out⟩
end Go.Proofs.YtdafeokjedmnkaaDoor
