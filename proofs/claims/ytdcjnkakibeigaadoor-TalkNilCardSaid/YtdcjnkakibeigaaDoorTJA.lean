/-
  talk: Hear of a session, Up; the methods of a nil one; the law's subscribe (made by mkTalkL.py).
-/
import Derived.Test.YtdcjnkakibeigaaDoorTalkK
import Derived.Laws.ResultCell
import Derived.Lib.SmallJoins
namespace Go.Proofs.YtdcjnkakibeigaaDoor
open Go.RowKit
set_option linter.unusedVariables false
set_option linter.unusedSimpArgs false
set_option maxRecDepth 8000 in
set_option maxHeartbeats 3200000 in
theorem Hear_any (g : Nat) (s : SV) (m : MV) (nA : Option Addr) (nc : Nat) (rA : Option Addr) (rc : Nat) (vA : Option Addr) (vc : Nat) (w : World) (P : Int → SV → World → Prop) (h : Blk w g 66 s.cells) (hcode : s.code = 0)
    (C : ∀ W', Below w.heap.size w W' → Calls Tryd.prog 26 #[.pointer (some ⟨g, 0, none⟩), .agg (mvC m nA nc rA rc vA vc)] W' fun r w' => ∃ k : Int, r = .returned (.int .u64 k) ∧ ∃ s', Blk w' g 66 s'.cells ∧ P k s' w') :
    Calls Tryd.prog 11 #[.pointer (some ⟨g, 0, none⟩), .agg (mvC m nA nc rA rc vA vc)] w fun r w' => ∃ (k : Int) (s' : SV) (w0 : World), r = .returned (.int .u64 k) ∧ Blk w0 g 66 s'.cells ∧ P k s' w0 ∧ w' = w0.setCell ⟨g, 2, none⟩ (.int .u64 k) := by
  obtain ⟨srv, met, code, f1, m1, aA, an, ac, bA, bn, bc, B1, f2, m2, eA, en, ec, hA, hn', hc, B2, oA, on_, oc⟩ := s
  obtain ⟨kind, id, al, name, prio, ord, sg, so, eg, eo, sm, code', reason, nn, ver, vers⟩ := m
  simp only at hcode
  subst hcode
  have CC := Lib.hid C
  unfold mvC at *
  have h' := h
  unfold SV.cells at h'
  simp only at h' CC ⊢
  obtain ⟨W, hW⟩ : ∃ W, W = w.alloc (.cells #[.int .u64 kind, .int .u64 id, .int .u64 al, .slice nA name.length nc, .int .u8 prio, .int .u8 ord, .int .u64 sg, .int .u64 so, .int .u64 eg, .int .u64 eo, .bool sm, .int .u64 code', .slice rA reason.length rc, .int .u64 nn, .int .u64 ver, .slice vA vers.length vc] 31) := ⟨_, rfl⟩
  have bw := show Below w.heap.size w W by rw [hW]; exact (Below.refl _ _).alloc (Nat.le_refl _) _
  obtain ⟨gb, hgb⟩ : ∃ g, g = w.heap.size := ⟨_, rfl⟩
  have K0 := Lib.hid (show Blk W gb 31 #[.int .u64 kind, .int .u64 id, .int .u64 al, .slice nA name.length nc, .int .u8 prio, .int .u8 ord, .int .u64 sg, .int .u64 so, .int .u64 eg, .int .u64 eo, .bool sm, .int .u64 code', .slice rA reason.length rc, .int .u64 nn, .int .u64 ver, .slice vA vers.length vc] by rw [hW, hgb]; exact Blk.new _ _ _)
  have H0 := Lib.hid (h'.below bw h'.lt)
  have B0 := Lib.hid bw
  have HW := Lib.hid hW
  have HGB := Lib.hid hgb
  clear hW bw h h' hgb C
  go_enter Tryd.func11, Tryd.ntmps11
  go_upto_region 1 with (fail)
  rw [← HW.out, ← HGB.out]
  have d2 := H0.out.cell 2
  simp only [List.getElem?_toArray, List.getElem?_cons_zero, List.getElem?_cons_succ] at d2
  have zg := H0.out.lt
  have k0 := K0.out.cell 0
  have k1 := K0.out.cell 1
  have k2 := K0.out.cell 2
  have k3 := K0.out.cell 3
  have k4 := K0.out.cell 4
  have k5 := K0.out.cell 5
  have k6 := K0.out.cell 6
  have k7 := K0.out.cell 7
  have k8 := K0.out.cell 8
  have k9 := K0.out.cell 9
  have k10 := K0.out.cell 10
  have k11 := K0.out.cell 11
  have k12 := K0.out.cell 12
  have k13 := K0.out.cell 13
  have k14 := K0.out.cell 14
  have k15 := K0.out.cell 15
  simp only [List.getElem?_toArray, List.getElem?_cons_zero, List.getElem?_cons_succ] at k0 k1 k2 k3 k4 k5 k6 k7 k8 k9 k10 k11 k12 k13 k14 k15
  have zb := K0.out.lt
  go_wp2_with fail
  refine (CC.out W B0.out).mono ?_
  rintro e w2 ⟨k, rfl, s', hb, hP⟩
  have HP := Lib.hid hP
  have HB := Lib.hid hb
  clear k0 k1 k2 k3 k4 k5 k6 k7 k8 k9 k10 k11 k12 k13 k14 k15 zb d2 zg hP hb
  have c2 := HB.out.cell 2
  have f2' := HB.out.frozen 2
  have zg := HB.out.lt
  rw [show s'.cells[2]? = some (.int .u64 s'.code) from rfl] at c2
  go_wp2_with fail
  go_ret
  exact ⟨k, s', w2, rfl, HB.out, HP.out, rfl⟩
theorem Up_code (g : Nat) (w : World) (b : Bool) (k : Int) (z : g < w.heap.size) (h1 : w.cell? ⟨g, 1, none⟩ = some (.bool b)) (h2 : w.cell? ⟨g, 2, none⟩ = some (.int .u64 k)) :
    Calls Tryd.prog 16 #[.pointer (some ⟨g, 0, none⟩)] w fun r w' => r = .returned (.bool (b && decide (k = 0))) ∧ w = w' := by
  go_enter Tryd.func16, Tryd.ntmps16
  cases b
  · go_wp2_with fail
    go_ret
    simp
  · go_wp2_with fail
    go_ret
    by_cases hk : k = 0 <;> simp [hk]
theorem Up_nil (w : World) : Calls Tryd.prog 16 #[.pointer none] w fun r w' => r = .returned (.bool false) ∧ w = w' := by
  go_enter Tryd.func16, Tryd.ntmps16
  go_wp2_with fail
  go_ret
  simp
theorem Code_nil (w : World) : Calls Tryd.prog 17 #[.pointer none] w fun r w' => r = .returned (.int .u64 0) ∧ w = w' := by
  go_enter Tryd.func17, Tryd.ntmps17
  go_wp2_with fail
  go_ret
  exact ⟨rfl, rfl⟩
theorem Out_nil (w : World) : Calls Tryd.prog 13 #[.pointer none] w fun r w' => r = .returned (.slice none 0 0) ∧ w = w' := by
  go_enter Tryd.func13, Tryd.ntmps13
  go_wp2_with fail
  go_ret
  exact ⟨rfl, rfl⟩
theorem Finish_nil (id : Int) (b : Bool) (w : World) : Calls Tryd.prog 14 #[.pointer none, .int .u64 id, .bool b] w fun r w' => r = .returned (.int .i64 6) ∧ w = w' := by
  go_enter Tryd.func14, Tryd.ntmps14
  go_wp2_with fail
  go_ret
  exact ⟨rfl, rfl⟩
theorem Asks_nil (b : Bool) (w : World) : Calls Tryd.prog 15 #[.pointer none, .bool b] w fun r w' => r = .returned (.slice none 0 0) ∧ w = w' := by
  go_enter Tryd.func15, Tryd.ntmps15
  go_wp2_with fail
  go_ret
  exact ⟨rfl, rfl⟩
theorem Hear_nil (cs : Array Value) (w : World) : Calls Tryd.prog 11 #[.pointer none, .agg cs] w fun r w' => r = .returned (.int .u64 0) ∧ Below w.heap.size w w' := by
  go_enter Tryd.func11, Tryd.ntmps11
  go_wp2_with fail
  go_ret
  exact ⟨rfl, (Below.refl _ _).alloc (Nat.le_refl _) _⟩
theorem below_gsL {w w' : World} {g B : Nat} {a : World} (h : Below B a w) (hg : w.grownBy w' (some g)) (hB : B ≤ g) (hs : B ≤ w.heap.size) : Below B a w' :=
  ⟨hg.os.trans h.os, hg.tape.trans h.tape, hg.output.trans h.output, Nat.le_trans h.size hg.size, fun i hi => (hg.block i (by omega) (by intro e; injection e with e; omega)).trans (h.block i hi)⟩
theorem info_msgL : (Tryd.prog.info? 31).map (·.size) = some 16 := by kernel_rfl
theorem rd_markL (w : World) (n : Nat) (hn : n = w.heap.size) (x : Int) (fr : Nat × Nat) : Rd (w.alloc (.cells #[.int .u8 x] 5 fr)) (some ⟨n, 0, none⟩) [x] := by
  subst hn
  refine ⟨rfl, fun _ => ⟨_, rfl, by simp, fun j u hu => ?_⟩⟩
  have hj : j = 0 := by
    rcases Nat.eq_zero_or_pos j with h | h
    · exact h
    · rw [List.getElem?_eq_none (by simp [U8]; omega)] at hu; cases hu
  subst hj
  simp [U8] at hu
  subst hu
  simp [Addr.add, World.cell?_alloc_mark]
theorem rd_farL {w : World} {n g : Nat} {cs : Array Value} {l : List Int} (h : Rd w (some ⟨n, 0, none⟩) l) (hne : n ≠ g) : Rd (w.setRow g cs) (some ⟨n, 0, none⟩) l := by
  refine ⟨h.1, fun hl => ?_⟩
  obtain ⟨ad, e, hb, hc⟩ := h.2 hl
  injection e with e
  subst e
  refine ⟨_, rfl, by simpa using hb, fun j u hu => ?_⟩
  rw [← hc j u hu]
  unfold World.cell?
  rw [show (Addr.add ⟨n, 0, none⟩ j : Addr).block = n by rw [block_of_add]]
  rw [setRow_other w g n cs hne]
set_option maxRecDepth 20000 in
set_option maxHeartbeats 1600000 in
theorem subscribe_any (i a : Int) (w : World) : Calls Tryd.prog 19 #[.int .u64 i, .int .u64 a] w fun r w' => ∃ gn, r = .returned (.agg #[.int .u64 3, .int .u64 i, .int .u64 a, .slice (some ⟨gn, 0, none⟩) 1 1, .int .u8 0, .int .u8 1, .int .u64 0, .int .u64 0, .int .u64 0, .int .u64 0, .bool false, .int .u64 0, .slice none 0 0, .int .u64 0, .int .u64 0, .slice none 0 0]) ∧ Rd w' (some ⟨gn, 0, none⟩) [116] ∧ Below w.heap.size w w' := by
  have K := Blk.new w 31 #[.int .u64 0, .int .u64 0, .int .u64 0, .slice none 0 0, .int .u8 0, .int .u8 0, .int .u64 0, .int .u64 0, .int .u64 0, .int .u64 0, .bool false, .int .u64 0, .slice none 0 0, .int .u64 0, .int .u64 0, .slice none 0 0]
  have kc := fun (w : World) (C : Array Value) (n c g : Nat) (hg : g = w.heap.size) => Joins.run_convert_bytes_const_at (P := Tryd.prog) w 23 5 C n c g hg Tryd.underlying23 Tryd.underlying5
  go_enter Tryd.func19, Tryd.ntmps19
  have K2 := K.alloc (.cells #[.int .u8 116] 5 (1, 2))
  have R2 := rd_markL (w.alloc (.cells #[.int .u64 0, .int .u64 0, .int .u64 0, .slice none 0 0, .int .u8 0, .int .u8 0, .int .u64 0, .int .u64 0, .int .u64 0, .int .u64 0, .bool false, .int .u64 0, .slice none 0 0, .int .u64 0, .int .u64 0, .slice none 0 0] 31)) (w.heap.size + 1) (by simp) 116 (1, 2)
  have B2 : Below w.heap.size w ((w.alloc (.cells #[.int .u64 0, .int .u64 0, .int .u64 0, .slice none 0 0, .int .u8 0, .int .u8 0, .int .u64 0, .int .u64 0, .int .u64 0, .int .u64 0, .bool false, .int .u64 0, .slice none 0 0, .int .u64 0, .int .u64 0, .slice none 0 0] 31)).alloc (.cells #[.int .u8 116] 5 (1, 2))) := ((Below.refl _ _).alloc (Nat.le_refl _) _).alloc (by simp) _
  go_wp2_with (refine wpList_store_row rfl 31 (.tmp 4) (.tmp 9) rfl w.heap.size _ rfl rfl 31 _ K2 info_msgL rfl (by simp [Value.oneCell']) ?_)
  refine bodyPost_ret (v := .agg #[.int .u64 3, .int .u64 i, .int .u64 a, .slice (some ⟨w.heap.size + 1, 0, none⟩) 1 1, .int .u8 0, .int .u8 1, .int .u64 0, .int .u64 0, .int .u64 0, .int .u64 0, .bool false, .int .u64 0, .slice none 0 0, .int .u64 0, .int .u64 0, .slice none 0 0]) (results_cell_row rfl _ _ w.heap.size 31 _ (0, 0) _ rfl (setRowT K2 _) Tryd.underlying31 rfl (by kernel_rfl)) rfl ⟨w.heap.size + 1, rfl, ?_, ?_⟩
  · exact rd_farL R2 (by simp)
  · exact below_gsL B2 (only_setRowT _ _ _) (Nat.le_refl _) B2.size
end Go.Proofs.YtdcjnkakibeigaaDoor

/-
  talk: the document's example.
-/
namespace Go.Proofs.YtdcjnkakibeigaaDoor
open Go.RowKit
set_option linter.unusedVariables false
set_option linter.unusedSimpArgs false
/-- A session that was made behind w stands so. -/
structure Ses (w W : World) (g : Nat) (s : SV) (n : Nat) (L : List Int) : Prop where
  blk : Blk W g 66 s.cells
  mp : MapE W s.B2 n L
  bel : Below w.heap.size w W
  hg : w.heap.size ≤ g
  hB : w.heap.size ≤ s.B2
theorem Ses.below {w W W' : World} {g : Nat} {s : SV} {n : Nat} {L : List Int} (h : Ses w W g s n L) (hb : Below W.heap.size W W') : Ses w W' g s n L := by
  exact ⟨h.blk.below hb h.blk.lt, h.mp.below hb, h.bel.trans (hb.mono h.bel.size), h.hg, h.hB⟩
theorem Ses.set {w W : World} {g : Nat} {s : SV} {k : Int} {n : Nat} {L : List Int} (h : Ses w W g s n L) : Ses w (W.setCell ⟨g, 2, none⟩ (.int .u64 k)) g { s with code := k } n L := by
  have hm := h.mp
  have gs : W.grownBy (W.setCell ⟨g, 2, none⟩ (.int .u64 k)) (some g) := only_set (only_refl W (some g)) (p := ⟨g, 2, none⟩) rfl _
  refine ⟨h.blk.set_ 2 (.int .u64 k), hm.kept gs (fun e => hm.ne_blk h.blk (by injection e with e; exact e.symm)), ?_, h.hg, h.hB⟩
  exact below_gsL h.bel gs h.hg h.bel.size
def mv1 : MV := ⟨32, 0, 0, [], 0, 0, 0, 0, 0, 0, false, 0, [], 3, 0, [1]⟩
def mvS (i a : Int) : MV := ⟨3, i, a, [116], 0, 1, 0, 0, 0, 0, false, 0, [], 0, 0, []⟩
theorem reads_noneL {W : World} {b k : Nat} : Reads W b k none 0 [] := ⟨by simp, fun h => absurd h (by omega)⟩
theorem good1 : GoodV mv1 ∧ InR mv1.kind := by
  refine ⟨⟨?_, ?_, ?_, ?_, ?_, ?_, ?_, ?_, ?_, ?_, ?_, ?_, ?_⟩, ?_⟩ <;> first | (simp [InR, mv1]; done) | (intro x hx; simp [mv1] at hx; subst hx; simp [InR])
theorem goodS (i a : Int) (hi : InR i) (ha : InR a) : GoodV (mvS i a) ∧ InR (mvS i a).kind := by
  refine ⟨⟨hi, ha, ?_, ?_, ?_, ?_, ?_, ?_, ?_, ?_, ?_, ?_, ?_⟩, ?_⟩ <;> first | (simp [InR, mvS]; done) | (intro x hx; simp [mvS] at hx)
set_option maxRecDepth 8000 in
set_option maxHeartbeats 1600000 in
theorem hear1 (g : Nat) (s : SV) (vA : Option Addr) (vc : Nat) (n : Nat) (L : List Int) (w W : World) (ht : Tab w) (h : Ses w W g s n L) (hsrv : s.srv = true) (hmet : s.met = false) (hcode : s.code = 0) (hoA : s.oA = none) (hon : s.on_ = 0) (hoc : s.oc = 0) (hv : RdI .u64 W vA [1]) :
    Calls Tryd.prog 11 #[.pointer (some ⟨g, 0, none⟩), .agg (mvC mv1 none 0 none 0 vA vc)] W fun r w' => r = .returned (.int .u64 0) ∧ ∃ A' c', Ses w w' g { s with met := true, code := 0, m1 := 3, oA := A', on_ := 1, oc := c' } n L := by
  have hg := h.hg
  refine (Hear_any g s mv1 none 0 none 0 vA vc W (fun k s' w' => k = 0 ∧ ∃ A' c', s' = { s with met := true, m1 := 3, oA := A', on_ := 1, oc := c' } ∧ Ses w w' g s' n L) h.blk hcode ?_).mono ?_
  · intro W1 b1
    have h1 := h.below b1
    refine (hear_meet g s mv1 none 0 none 0 vA vc W1 (fun r w' => r = .returned (.int .u64 0) ∧ ∃ A' c', Ses w w' g { s with met := true, m1 := 3, oA := A', on_ := 1, oc := c' } n L) h1.blk hmet (ht.below h1.bel) (by decide +kernel) good1 ⟨reads_noneL, reads_noneL, hv.below b1⟩ (by simp [mv1]) (by simp [mv1]) (by simp [mv1]) ?_).mono ?_
    · intro W2 b2
      have h2 := h1.below b2
      refine (meet_srv g 0 [] s mv1 none 0 none 0 vA vc W2 h2.blk hsrv rfl (by simp [mv1]) ((hv.below b1).below b2) (by simp [mv1]) (by rw [hoA, hon, hoc]; exact OwnV.nil _ _ _ _) (Nat.zero_le _) (by omega) (by simp [mv1]) (by simp [mv1])).mono ?_
      rintro r w' ⟨rfl, A', c', k3, o3, f3⟩
      rw [hon] at k3
      refine ⟨0, rfl, rfl, A', c', ⟨k3, ?_, ?_, h.hg, h.hB⟩⟩
      · have hm := h2.mp
        have hne := hm.ne_blk h2.blk
        have hgb : W2.grownBy w' (some g) := ⟨f3.os, f3.tape, f3.output, f3.size, fun b hb hn' => f3.blk b hb (by
          rintro (e | e)
          · exact hn' (by rw [e])
          · rw [hoA] at e; cases e)⟩
        exact hm.kept hgb (fun e => hne (by injection e with e; exact e.symm))
      · refine h2.bel.trans (f3.below h2.bel.size ?_)
        rintro b hb (e | e)
        · omega
        · rw [hoA] at e; cases e
    · rintro r w' ⟨k, hk, hr, A', c', hs⟩
      rw [hr] at hk
      injection hk with hk
      injection hk with _ hk
      subst hk
      exact ⟨0, hr, _, hs.blk, rfl, A', c', rfl, hs⟩
  · rintro r w' ⟨k, s', w0, rfl, hb, ⟨rfl, A', c', rfl, hs⟩, rfl⟩
    exact ⟨rfl, A', c', hs.set⟩
set_option maxRecDepth 8000 in
set_option maxHeartbeats 1600000 in
theorem hear2 (g gn : Nat) (s : SV) (w W : World) (ht : Tab w) (h : Ses w W g s 0 []) (hmet : s.met = true) (hcode : s.code = 0) (hf : s.f2 = 0) (hm2 : s.m2 = 5) (heA : s.eA = none) (hen : s.en = 0) (hec : s.ec = 0) (hhA : s.hA = none) (hhn : s.hn = 0) (hhc : s.hc = 0) (hv : Rd W (some ⟨gn, 0, none⟩) [116]) :
    Calls Tryd.prog 11 #[.pointer (some ⟨g, 0, none⟩), .agg (mvC (mvS 0 1) (some ⟨gn, 0, none⟩) 1 none 0 none 0)] W fun r w' => r = .returned (.int .u64 0) ∧ ∃ A c A' c' n L, Ses w w' g { s with code := 0, eA := A, en := 1, ec := c, hA := A', hn := 1, hc := c' } n L := by
  have hg := h.hg
  have hB := h.hB
  refine (Hear_any g s (mvS 0 1) (some ⟨gn, 0, none⟩) 1 none 0 none 0 W (fun k s' w' => k = 0 ∧ ∃ A c A' c' n L, s' = { s with eA := A, en := 1, ec := c, hA := A', hn := 1, hc := c' } ∧ Ses w w' g s' n L) h.blk hcode ?_).mono ?_
  · intro W1 b1
    have h1 := h.below b1
    have hv1 := hv.below b1
    refine (hear_req g s (mvS 0 1) (some ⟨gn, 0, none⟩) 1 none 0 none 0 W1 (fun r w' => r = .returned (.int .u64 0) ∧ ∃ A c A' c' n L, Ses w w' g { s with eA := A, en := 1, ec := c, hA := A', hn := 1, hc := c' } n L) h1.blk hmet rfl (ht.below h1.bel) (by decide +kernel) (goodS 0 1 (by unfold InR; omega) (by unfold InR; omega)) ⟨hv1, reads_noneL, reads_noneL⟩ (by simp [mvS]) (by simp [mvS]) (by simp [mvS]) ?_).mono ?_
    · intro W2 b2
      have h2 := h1.below b2
      have hv2 := hv1.below b2
      refine (hearReq_ok g 0 0 [] [] [] s (mvS 0 1) (some ⟨gn, 0, none⟩) 1 none 0 none 0 W2 h2.blk (by rw [hf]; omega) (by omega) (by rw [hf, hen]; rfl) (by rw [hm2, hen]; omega) rfl (by rw [heA, hec, hen]; exact OwnV.nil _ _ _ _) (by rw [hhA, hhc, hhn]; exact OwnV.nil _ _ _ _) h2.mp (Nat.zero_le _) (by omega) (by omega)
        hv2 (by simp [mvS]) (fun e => by cases e) reads_noneL (by simp [mvS]) (fun _ => ⟨rfl, rfl⟩) reads_noneL (by simp [mvS]) (fun _ => ⟨rfl, rfl⟩) rfl).mono ?_
      rintro r w' ⟨rfl, A, c, A', c', zs, n', L', k3, o3, o4, m3, hn3, f3⟩
      rw [hen, hhn] at k3
      refine ⟨0, rfl, rfl, A, c, A', c', n', L', ⟨k3, m3, ?_, h.hg, h.hB⟩⟩
      refine h2.bel.trans (f3.below h2.bel.size ?_)
      rintro b hb (e | e | e | e)
      · omega
      · omega
      · rw [heA] at e; cases e
      · rw [hhA] at e; cases e
    · rintro r w' ⟨k, hk, hr, A, c, A', c', n, L, hs⟩
      rw [hr] at hk
      injection hk with hk
      injection hk with _ hk
      subst hk
      exact ⟨0, hr, _, hs.blk, rfl, A, c, A', c', n, L, rfl, hs⟩
  · rintro r w' ⟨k, s', w0, rfl, hb, ⟨rfl, A, c, A', c', n, L, rfl, hs⟩, rfl⟩
    exact ⟨rfl, A, c, A', c', n, L, hs.set⟩
set_option maxRecDepth 8000 in
set_option maxHeartbeats 1600000 in
theorem hear3 (g gn : Nat) (s : SV) (n : Nat) (L : List Int) (w W : World) (ht : Tab w) (h : Ses w W g s n L) (hmet : s.met = true) (hcode : s.code = 0) (hf : s.f2 = 0) (hen : s.en = 1) (hv : Rd W (some ⟨gn, 0, none⟩) [116]) :
    Calls Tryd.prog 11 #[.pointer (some ⟨g, 0, none⟩), .agg (mvC (mvS 4 2) (some ⟨gn, 0, none⟩) 1 none 0 none 0)] W fun r w' => r = .returned (.int .u64 4) ∧ Ses w w' g { s with code := 4 } n L := by
  refine (Hear_any g s (mvS 4 2) (some ⟨gn, 0, none⟩) 1 none 0 none 0 W (fun k s' w' => k = 4 ∧ s' = s ∧ Ses w w' g s n L) h.blk hcode ?_).mono ?_
  · intro W1 b1
    have h1 := h.below b1
    have hv1 := hv.below b1
    refine (hear_req g s (mvS 4 2) (some ⟨gn, 0, none⟩) 1 none 0 none 0 W1 (fun r w' => r = .returned (.int .u64 4) ∧ Ses w w' g s n L) h1.blk hmet rfl (ht.below h1.bel) (by decide +kernel) (goodS 4 2 (by unfold InR; omega) (by unfold InR; omega)) ⟨hv1, reads_noneL, reads_noneL⟩ (by simp [mvS]) (by simp [mvS]) (by simp [mvS]) ?_).mono ?_
    · intro W2 b2
      have h2 := h1.below b2
      refine (hearReq_bad g s (mvS 4 2) (some ⟨gn, 0, none⟩) 1 none 0 none 0 W2 h2.blk (by rw [hf]; omega) (by omega) (by rw [hf, hen]; decide)).mono ?_
      rintro r w' ⟨rfl, b3⟩
      exact ⟨4, rfl, rfl, h2.below b3⟩
    · rintro r w' ⟨k, hk, hr, hs⟩
      rw [hr] at hk
      injection hk with hk
      injection hk with _ hk
      subst hk
      exact ⟨4, hr, _, hs.blk, rfl, rfl, hs⟩
  · rintro r w' ⟨k, s', w0, rfl, hb, ⟨rfl, rfl, hs⟩, rfl⟩
    exact ⟨rfl, hs.set⟩
end Go.Proofs.YtdcjnkakibeigaaDoor

/-
  talk: the law's first question.
-/
namespace Go.Proofs.YtdcjnkakibeigaaDoor
open Go.RowKit
set_option linter.unusedVariables false
set_option linter.unusedSimpArgs false
theorem reads_litL (w : World) (a : Int) : RdI .u64 (w.alloc (.cells #[.int .u64 a] 22)) (some ⟨w.heap.size, 0, none⟩) [a] := by
  refine ⟨rfl, fun _ => ⟨_, rfl, by simp, fun j u hu => ?_⟩⟩
  have hj : j = 0 := by
    rcases Nat.eq_zero_or_pos j with h | h
    · exact h
    · rw [List.getElem?_eq_none (by simp [IV]; omega)] at hu; cases hu
  subst hj
  simp [IV] at hu
  subst hu
  simp [Addr.add]
set_option maxRecDepth 20000 in
set_option maxHeartbeats 1600000 in
theorem awake17_any (w : World) (ht : Tab w) : Calls Tryd.prog 7 #[] w fun r w' => r = .returned (.bool true) ∧ Below w.heap.size w w' := by
  have HT := Lib.hid ht
  have N0 := Lib.hid (New_srv 5 w (by omega) (by omega))
  have SB := Lib.hid (fun i a W => subscribe_any i a W)
  have H1 := Lib.hid (fun g s vA vc n L W => hear1 g s vA vc n L w W ht)
  have H2 := Lib.hid (fun g gn s W => hear2 g gn s w W ht)
  have H3 := Lib.hid (fun g gn s n L W => hear3 g gn s n L w W ht)
  unfold mvC mv1 at H1
  unfold mvC mvS at H2 H3
  simp only [List.length_nil, List.length_cons] at H1 H2 H3
  clear ht
  go_enter Tryd.func7, Tryd.ntmps7
  go_wp2_with fail
  refine N0.out.mono ?_
  rintro e w1 ⟨⟨g, B1, B2, rfl, hg, k1, m1, m2, hb1, hb2, hne⟩, bel⟩
  have S1 := Lib.hid (show Ses w w1 g (svNew 5 B1 B2) 0 [] from ⟨k1, m2, bel, hg, hb2⟩)
  clear N0 k1 m1 m2 hb1 hb2 hne bel hg
  have b1 : Below w1.heap.size w1 (w1.alloc (.cells #[.int .u64 1] 22)) := (Below.refl _ _).alloc (Nat.le_refl _) _
  have C1 := Lib.hid (H1.out g (svNew 5 B1 B2) (some ⟨w1.heap.size, 0, none⟩) 1 0 [] _ (S1.out.below b1) rfl rfl rfl rfl rfl rfl (reads_litL w1 1))
  clear H1
  go_wp2_with fail
  refine C1.out.mono ?_
  rintro e w2 ⟨rfl, A', c', s2⟩
  have S2 := Lib.hid s2
  clear s2 C1 S1 b1
  go_wp2_with fail
  refine (SB.out 0 1 w2).mono ?_
  rintro e w3 ⟨gn, rfl, r3, b3⟩
  have C2 := Lib.hid (H2.out g gn _ w3 (S2.out.below b3) rfl rfl rfl rfl rfl rfl rfl rfl rfl rfl r3)
  clear H2 r3 b3 S2
  go_wp2_with fail
  refine C2.out.mono ?_
  rintro e w4 ⟨rfl, A2, c2, A3, c3, n, L, s4⟩
  have S4 := Lib.hid s4
  clear s4 C2
  go_wp2_with fail
  refine (SB.out 4 2 w4).mono ?_
  rintro e w5 ⟨gn2, rfl, r5, b5⟩
  have C3 := Lib.hid (H3.out g gn2 _ n L w5 (S4.out.below b5) rfl rfl rfl rfl r5)
  clear H3 r5 b5 S4
  go_wp2_with fail
  refine C3.out.mono ?_
  rintro e w6 ⟨rfl, s6⟩
  have S6 := Lib.hid s6
  have UP := Lib.hid (Up_code g w6 true 4 s6.blk.lt (s6.blk.cell 1) (s6.blk.cell 2))
  clear s6 C3
  go_wp2_with fail
  refine UP.out.mono ?_
  rintro e w7 ⟨rfl, rfl⟩
  go_wp2_with fail
  go_ret
  exact ⟨rfl, S6.out.bel⟩
end Go.Proofs.YtdcjnkakibeigaaDoor
