/-
  talk: Hear of a session, Up; the methods of a nil one; the law's subscribe (made by mkTalkL.py).
-/
import Derived.Test.YtdcjnkakibeigaaDoorTalkK
import Derived.Laws.ResultCell
import Derived.Lib.SmallJoins
namespace Go.Proofs.YtdcjnkakibeigaaDoor
open Go.RowKit
set_option linter.unusedVariables false
set_option linter.unusedSimpArgs false
set_option maxRecDepth 8000 in
set_option maxHeartbeats 3200000 in
theorem Hear_any (g : Nat) (s : SV) (m : MV) (nA : Option Addr) (nc : Nat) (rA : Option Addr) (rc : Nat) (vA : Option Addr) (vc : Nat) (w : World) (P : Int → SV → World → Prop) (h : Blk w g 66 s.cells) (hcode : s.code = 0)
    (C : ∀ W', Below w.heap.size w W' → Calls Tryd.prog 26 #[.pointer (some ⟨g, 0, none⟩), .agg (mvC m nA nc rA rc vA vc)] W' fun r w' => ∃ k : Int, r = .returned (.int .u64 k) ∧ ∃ s', Blk w' g 66 s'.cells ∧ P k s' w') :
    Calls Tryd.prog 11 #[.pointer (some ⟨g, 0, none⟩), .agg (mvC m nA nc rA rc vA vc)] w fun r w' => ∃ (k : Int) (s' : SV) (w0 : World), r = .returned (.int .u64 k) ∧ Blk w0 g 66 s'.cells ∧ P k s' w0 ∧ w' = w0.setCell ⟨g, 2, none⟩ (.int .u64 k) := by
  obtain ⟨srv, met, code, f1, m1, aA, an, ac, bA, bn, bc, B1, f2, m2, eA, en, ec, hA, hn', hc, B2, oA, on_, oc⟩ := s
  obtain ⟨kind, id, al, name, prio, ord, sg, so, eg, eo, sm, code', reason, nn, ver, vers⟩ := m
  simp only at hcode
  subst hcode
  have CC := Lib.hid C
  unfold mvC at *
  have h' := h
  unfold SV.cells at h'
  simp only at h' CC ⊢
  obtain ⟨W, hW⟩ : ∃ W, W = w.alloc (.cells #[.int .u64 kind, .int .u64 id, .int .u64 al, .slice nA name.length nc, .int .u8 prio, .int .u8 ord, .int .u64 sg, .int .u64 so, .int .u64 eg, .int .u64 eo, .bool sm, .int .u64 code', .slice rA reason.length rc, .int .u64 nn, .int .u64 ver, .slice vA vers.length vc] 31) := ⟨_, rfl⟩
  have bw := show Below w.heap.size w W by rw [hW]; exact (Below.refl _ _).alloc (Nat.le_refl _) _
  obtain ⟨gb, hgb⟩ : ∃ g, g = w.heap.size := ⟨_, rfl⟩
  have K0 := Lib.hid (show Blk W gb 31 #[.int .u64 kind, .int .u64 id, .int .u64 al, .slice nA name.length nc, .int .u8 prio, .int .u8 ord, .int .u64 sg, .int .u64 so, .int .u64 eg, .int .u64 eo, .bool sm, .int .u64 code', .slice rA reason.length rc, .int .u64 nn, .int .u64 ver, .slice vA vers.length vc] by rw [hW, hgb]; exact Blk.new _ _ _)
  have H0 := Lib.hid (h'.below bw h'.lt)
  have B0 := Lib.hid bw
  have HW := Lib.hid hW
  have HGB := Lib.hid hgb
  clear hW bw h h' hgb C
  go_enter Tryd.func11, Tryd.ntmps11
  go_upto_region 1 with (fail)
  rw [← HW.out, ← HGB.out]
  have d2 := H0.out.cell 2
  simp only [List.getElem?_toArray, List.getElem?_cons_zero, List.getElem?_cons_succ] at d2
  have zg := H0.out.lt
  have k0 := K0.out.cell 0
  have k1 := K0.out.cell 1
  have k2 := K0.out.cell 2
  have k3 := K0.out.cell 3
  have k4 := K0.out.cell 4
  have k5 := K0.out.cell 5
  have k6 := K0.out.cell 6
  have k7 := K0.out.cell 7
  have k8 := K0.out.cell 8
  have k9 := K0.out.cell 9
  have k10 := K0.out.cell 10
  have k11 := K0.out.cell 11
  have k12 := K0.out.cell 12
  have k13 := K0.out.cell 13
  have k14 := K0.out.cell 14
  have k15 := K0.out.cell 15
  simp only [List.getElem?_toArray, List.getElem?_cons_zero, List.getElem?_cons_succ] at k0 k1 k2 k3 k4 k5 k6 k7 k8 k9 k10 k11 k12 k13 k14 k15
  have zb := K0.out.lt
  go_wp2_with fail
  refine (CC.out W B0.out).mono ?_
  rintro e w2 ⟨k, rfl, s', hb, hP⟩
  have HP := Lib.hid hP
  have HB := Lib.hid hb
  clear k0 k1 k2 k3 k4 k5 k6 k7 k8 k9 k10 k11 k12 k13 k14 k15 zb d2 zg hP hb
  have c2 := HB.out.cell 2
  have f2' := HB.out.frozen 2
  have zg := HB.out.lt
  rw [show s'.cells[2]? = some (.int .u64 s'.code) from rfl] at c2
  go_wp2_with fail
  go_ret
  exact ⟨k, s', w2, rfl, HB.out, HP.out, rfl⟩
theorem Up_code (g : Nat) (w : World) (b : Bool) (k : Int) (z : g < w.heap.size) (h1 : w.cell? ⟨g, 1, none⟩ = some (.bool b)) (h2 : w.cell? ⟨g, 2, none⟩ = some (.int .u64 k)) :
    Calls Tryd.prog 16 #[.pointer (some ⟨g, 0, none⟩)] w fun r w' => r = .returned (.bool (b && decide (k = 0))) ∧ w = w' := by
  go_enter Tryd.func16, Tryd.ntmps16
  cases b
  · go_wp2_with fail
    go_ret
    simp
  · go_wp2_with fail
    go_ret
    by_cases hk : k = 0 <;> simp [hk]
theorem Up_nil (w : World) : Calls Tryd.prog 16 #[.pointer none] w fun r w' => r = .returned (.bool false) ∧ w = w' := by
  go_enter Tryd.func16, Tryd.ntmps16
  go_wp2_with fail
  go_ret
  simp
theorem Code_nil (w : World) : Calls Tryd.prog 17 #[.pointer none] w fun r w' => r = .returned (.int .u64 0) ∧ w = w' := by
  go_enter Tryd.func17, Tryd.ntmps17
  go_wp2_with fail
  go_ret
  exact ⟨rfl, rfl⟩
theorem Out_nil (w : World) : Calls Tryd.prog 13 #[.pointer none] w fun r w' => r = .returned (.slice none 0 0) ∧ w = w' := by
  go_enter Tryd.func13, Tryd.ntmps13
  go_wp2_with fail
  go_ret
  exact ⟨rfl, rfl⟩
theorem Finish_nil (id : Int) (b : Bool) (w : World) : Calls Tryd.prog 14 #[.pointer none, .int .u64 id, .bool b] w fun r w' => r = .returned (.int .i64 6) ∧ w = w' := by
  go_enter Tryd.func14, Tryd.ntmps14
  go_wp2_with fail
  go_ret
  exact ⟨rfl, rfl⟩
theorem Asks_nil (b : Bool) (w : World) : Calls Tryd.prog 15 #[.pointer none, .bool b] w fun r w' => r = .returned (.slice none 0 0) ∧ w = w' := by
  go_enter Tryd.func15, Tryd.ntmps15
  go_wp2_with fail
  go_ret
  exact ⟨rfl, rfl⟩
theorem Hear_nil (cs : Array Value) (w : World) : Calls Tryd.prog 11 #[.pointer none, .agg cs] w fun r w' => r = .returned (.int .u64 0) ∧ Below w.heap.size w w' := by
  go_enter Tryd.func11, Tryd.ntmps11
  go_wp2_with fail
  go_ret
  exact ⟨rfl, (Below.refl _ _).alloc (Nat.le_refl _) _⟩
theorem below_gsL {w w' : World} {g B : Nat} {a : World} (h : Below B a w) (hg : w.grownBy w' (some g)) (hB : B ≤ g) (hs : B ≤ w.heap.size) : Below B a w' :=
  ⟨hg.os.trans h.os, hg.tape.trans h.tape, hg.output.trans h.output, Nat.le_trans h.size hg.size, fun i hi => (hg.block i (by omega) (by intro e; injection e with e; omega)).trans (h.block i hi)⟩
theorem info_msgL : (Tryd.prog.info? 31).map (·.size) = some 16 := by kernel_rfl
theorem rd_markL (w : World) (n : Nat) (hn : n = w.heap.size) (x : Int) (fr : Nat × Nat) : Rd (w.alloc (.cells #[.int .u8 x] 5 fr)) (some ⟨n, 0, none⟩) [x] := by
  subst hn
  refine ⟨rfl, fun _ => ⟨_, rfl, by simp, fun j u hu => ?_⟩⟩
  have hj : j = 0 := by
    rcases Nat.eq_zero_or_pos j with h | h
    · exact h
    · rw [List.getElem?_eq_none (by simp [U8]; omega)] at hu; cases hu
  subst hj
  simp [U8] at hu
  subst hu
  simp [Addr.add, World.cell?_alloc_mark]
theorem rd_farL {w : World} {n g : Nat} {cs : Array Value} {l : List Int} (h : Rd w (some ⟨n, 0, none⟩) l) (hne : n ≠ g) : Rd (w.setRow g cs) (some ⟨n, 0, none⟩) l := by
  refine ⟨h.1, fun hl => ?_⟩
  obtain ⟨ad, e, hb, hc⟩ := h.2 hl
  injection e with e
  subst e
  refine ⟨_, rfl, by simpa using hb, fun j u hu => ?_⟩
  rw [← hc j u hu]
  unfold World.cell?
  rw [show (Addr.add ⟨n, 0, none⟩ j : Addr).block = n by rw [block_of_add]]
  rw [setRow_other w g n cs hne]
set_option maxRecDepth 20000 in
set_option maxHeartbeats 1600000 in
theorem subscribe_any (i a : Int) (w : World) : Calls Tryd.prog 19 #[.int .u64 i, .int .u64 a] w fun r w' => ∃ gn, r = .returned (.agg #[.int .u64 3, .int .u64 i, .int .u64 a, .slice (some ⟨gn, 0, none⟩) 1 1, .int .u8 0, .int .u8 1, .int .u64 0, .int .u64 0, .int .u64 0, .int .u64 0, .bool false, .int .u64 0, .slice none 0 0, .int .u64 0, .int .u64 0, .slice none 0 0]) ∧ Rd w' (some ⟨gn, 0, none⟩) [116] ∧ Below w.heap.size w w' := by
  have K := Blk.new w 31 #[.int .u64 0, .int .u64 0, .int .u64 0, .slice none 0 0, .int .u8 0, .int .u8 0, .int .u64 0, .int .u64 0, .int .u64 0, .int .u64 0, .bool false, .int .u64 0, .slice none 0 0, .int .u64 0, .int .u64 0, .slice none 0 0]
  have kc := fun (w : World) (C : Array Value) (n c g : Nat) (hg : g = w.heap.size) => Joins.run_convert_bytes_const_at (P := Tryd.prog) w 23 5 C n c g hg Tryd.underlying23 Tryd.underlying5
  go_enter Tryd.func19, Tryd.ntmps19
  have K2 := K.alloc (.cells #[.int .u8 116] 5 (1, 2))
  have R2 := rd_markL (w.alloc (.cells #[.int .u64 0, .int .u64 0, .int .u64 0, .slice none 0 0, .int .u8 0, .int .u8 0, .int .u64 0, .int .u64 0, .int .u64 0, .int .u64 0, .bool false, .int .u64 0, .slice none 0 0, .int .u64 0, .int .u64 0, .slice none 0 0] 31)) (w.heap.size + 1) (by simp) 116 (1, 2)
  have B2 : Below w.heap.size w ((w.alloc (.cells #[.int .u64 0, .int .u64 0, .int .u64 0, .slice none 0 0, .int .u8 0, .int .u8 0, .int .u64 0, .int .u64 0, .int .u64 0, .int .u64 0, .bool false, .int .u64 0, .slice none 0 0, .int .u64 0, .int .u64 0, .slice none 0 0] 31)).alloc (.cells #[.int .u8 116] 5 (1, 2))) := ((Below.refl _ _).alloc (Nat.le_refl _) _).alloc (by simp) _
  go_wp2_with (refine wpList_store_row rfl 31 (.tmp 4) (.tmp 9) rfl w.heap.size _ rfl rfl 31 _ K2 info_msgL rfl (by simp [Value.oneCell']) ?_)
  refine bodyPost_ret (v := .agg #[.int .u64 3, .int .u64 i, .int .u64 a, .slice (some ⟨w.heap.size + 1, 0, none⟩) 1 1, .int .u8 0, .int .u8 1, .int .u64 0, .int .u64 0, .int .u64 0, .int .u64 0, .bool false, .int .u64 0, .slice none 0 0, .int .u64 0, .int .u64 0, .slice none 0 0]) (results_cell_row rfl _ _ w.heap.size 31 _ (0, 0) _ rfl (setRowT K2 _) Tryd.underlying31 rfl (by kernel_rfl)) rfl ⟨w.heap.size + 1, rfl, ?_, ?_⟩
  · exact rd_farL R2 (by simp)
  · exact below_gsL B2 (only_setRowT _ _ _) (Nat.le_refl _) B2.size
end Go.Proofs.YtdcjnkakibeigaaDoor

/-
  talk: the document's example.
-/
namespace Go.Proofs.YtdcjnkakibeigaaDoor
open Go.RowKit
set_option linter.unusedVariables false
set_option linter.unusedSimpArgs false
/-- A session that was made behind w stands so. -/
structure Ses (w W : World) (g : Nat) (s : SV) (n : Nat) (L : List Int) : Prop where
  blk : Blk W g 66 s.cells
  mp : MapE W s.B2 n L
  bel : Below w.heap.size w W
  hg : w.heap.size ≤ g
  hB : w.heap.size ≤ s.B2
theorem Ses.below {w W W' : World} {g : Nat} {s : SV} {n : Nat} {L : List Int} (h : Ses w W g s n L) (hb : Below W.heap.size W W') : Ses w W' g s n L := by
  exact ⟨h.blk.below hb h.blk.lt, h.mp.below hb, h.bel.trans (hb.mono h.bel.size), h.hg, h.hB⟩
theorem Ses.set {w W : World} {g : Nat} {s : SV} {k : Int} {n : Nat} {L : List Int} (h : Ses w W g s n L) : Ses w (W.setCell ⟨g, 2, none⟩ (.int .u64 k)) g { s with code := k } n L := by
  have hm := h.mp
  have gs : W.grownBy (W.setCell ⟨g, 2, none⟩ (.int .u64 k)) (some g) := only_set (only_refl W (some g)) (p := ⟨g, 2, none⟩) rfl _
  refine ⟨h.blk.set_ 2 (.int .u64 k), hm.kept gs (fun e => hm.ne_blk h.blk (by injection e with e; exact e.symm)), ?_, h.hg, h.hB⟩
  exact below_gsL h.bel gs h.hg h.bel.size
def mv1 : MV := ⟨32, 0, 0, [], 0, 0, 0, 0, 0, 0, false, 0, [], 3, 0, [1]⟩
def mvS (i a : Int) : MV := ⟨3, i, a, [116], 0, 1, 0, 0, 0, 0, false, 0, [], 0, 0, []⟩
theorem reads_noneL {W : World} {b k : Nat} : Reads W b k none 0 [] := ⟨by simp, fun h => absurd h (by omega)⟩
theorem good1 : GoodV mv1 ∧ InR mv1.kind := by
  refine ⟨⟨?_, ?_, ?_, ?_, ?_, ?_, ?_, ?_, ?_, ?_, ?_, ?_, ?_⟩, ?_⟩ <;> first | (simp [InR, mv1]; done) | (intro x hx; simp [mv1] at hx; subst hx; simp [InR])
theorem goodS (i a : Int) (hi : InR i) (ha : InR a) : GoodV (mvS i a) ∧ InR (mvS i a).kind := by
  refine ⟨⟨hi, ha, ?_, ?_, ?_, ?_, ?_, ?_, ?_, ?_, ?_, ?_, ?_⟩, ?_⟩ <;> first | (simp [InR, mvS]; done) | (intro x hx; simp [mvS] at hx)
set_option maxRecDepth 8000 in
set_option maxHeartbeats 1600000 in
theorem hear1 (g : Nat) (s : SV) (vA : Option Addr) (vc : Nat) (n : Nat) (L : List Int) (w W : World) (ht : Tab w) (h : Ses w W g s n L) (hsrv : s.srv = true) (hmet : s.met = false) (hcode : s.code = 0) (hoA : s.oA = none) (hon : s.on_ = 0) (hoc : s.oc = 0) (hv : RdI .u64 W vA [1]) :
    Calls Tryd.prog 11 #[.pointer (some ⟨g, 0, none⟩), .agg (mvC mv1 none 0 none 0 vA vc)] W fun r w' => r = .returned (.int .u64 0) ∧ ∃ A' c', Ses w w' g { s with met := true, code := 0, m1 := 3, oA := A', on_ := 1, oc := c' } n L := by
  have hg := h.hg
  refine (Hear_any g s mv1 none 0 none 0 vA vc W (fun k s' w' => k = 0 ∧ ∃ A' c', s' = { s with met := true, m1 := 3, oA := A', on_ := 1, oc := c' } ∧ Ses w w' g s' n L) h.blk hcode ?_).mono ?_
  · intro W1 b1
    have h1 := h.below b1
    refine (hear_meet g s mv1 none 0 none 0 vA vc W1 (fun r w' => r = .returned (.int .u64 0) ∧ ∃ A' c', Ses w w' g { s with met := true, m1 := 3, oA := A', on_ := 1, oc := c' } n L) h1.blk hmet (ht.below h1.bel) (by decide +kernel) good1 ⟨reads_noneL, reads_noneL, hv.below b1⟩ (by simp [mv1]) (by simp [mv1]) (by simp [mv1]) ?_).mono ?_
    · intro W2 b2
      have h2 := h1.below b2
      refine (meet_srv g 0 [] s mv1 none 0 none 0 vA vc W2 h2.blk hsrv rfl (by simp [mv1]) ((hv.below b1).below b2) (by simp [mv1]) (by rw [hoA, hon, hoc]; exact OwnV.nil _ _ _ _) (Nat.zero_le _) (by omega) (by simp [mv1]) (by simp [mv1])).mono ?_
      rintro r w' ⟨rfl, A', c', k3, o3, f3⟩
      rw [hon] at k3
      refine ⟨0, rfl, rfl, A', c', ⟨k3, ?_, ?_, h.hg, h.hB⟩⟩
      · have hm := h2.mp
        have hne := hm.ne_blk h2.blk
        have hgb : W2.grownBy w' (some g) := ⟨f3.os, f3.tape, f3.output, f3.size, fun b hb hn' => f3.blk b hb (by
          rintro (e | e)
          · exact hn' (by rw [e])
          · rw [hoA] at e; cases e)⟩
        exact hm.kept hgb (fun e => hne (by injection e with e; exact e.symm))
      · refine h2.bel.trans (f3.below h2.bel.size ?_)
        rintro b hb (e | e)
        · omega
        · rw [hoA] at e; cases e
    · rintro r w' ⟨k, hk, hr, A', c', hs⟩
      rw [hr] at hk
      injection hk with hk
      injection hk with _ hk
      subst hk
      exact ⟨0, hr, _, hs.blk, rfl, A', c', rfl, hs⟩
  · rintro r w' ⟨k, s', w0, rfl, hb, ⟨rfl, A', c', rfl, hs⟩, rfl⟩
    exact ⟨rfl, A', c', hs.set⟩
set_option maxRecDepth 8000 in
set_option maxHeartbeats 1600000 in
theorem hear2 (g gn : Nat) (s : SV) (w W : World) (ht : Tab w) (h : Ses w W g s 0 []) (hmet : s.met = true) (hcode : s.code = 0) (hf : s.f2 = 0) (hm2 : s.m2 = 5) (heA : s.eA = none) (hen : s.en = 0) (hec : s.ec = 0) (hhA : s.hA = none) (hhn : s.hn = 0) (hhc : s.hc = 0) (hv : Rd W (some ⟨gn, 0, none⟩) [116]) :
    Calls Tryd.prog 11 #[.pointer (some ⟨g, 0, none⟩), .agg (mvC (mvS 0 1) (some ⟨gn, 0, none⟩) 1 none 0 none 0)] W fun r w' => r = .returned (.int .u64 0) ∧ ∃ A c A' c' n L, Ses w w' g { s with code := 0, eA := A, en := 1, ec := c, hA := A', hn := 1, hc := c' } n L := by
  have hg := h.hg
  have hB := h.hB
  refine (Hear_any g s (mvS 0 1) (some ⟨gn, 0, none⟩) 1 none 0 none 0 W (fun k s' w' => k = 0 ∧ ∃ A c A' c' n L, s' = { s with eA := A, en := 1, ec := c, hA := A', hn := 1, hc := c' } ∧ Ses w w' g s' n L) h.blk hcode ?_).mono ?_
  · intro W1 b1
    have h1 := h.below b1
    have hv1 := hv.below b1
    refine (hear_req g s (mvS 0 1) (some ⟨gn, 0, none⟩) 1 none 0 none 0 W1 (fun r w' => r = .returned (.int .u64 0) ∧ ∃ A c A' c' n L, Ses w w' g { s with eA := A, en := 1, ec := c, hA := A', hn := 1, hc := c' } n L) h1.blk hmet rfl (ht.below h1.bel) (by decide +kernel) (goodS 0 1 (by unfold InR; omega) (by unfold InR; omega)) ⟨hv1, reads_noneL, reads_noneL⟩ (by simp [mvS]) (by simp [mvS]) (by simp [mvS]) ?_).mono ?_
    · intro W2 b2
      have h2 := h1.below b2
      have hv2 := hv1.below b2
      refine (hearReq_ok g 0 0 [] [] [] s (mvS 0 1) (some ⟨gn, 0, none⟩) 1 none 0 none 0 W2 h2.blk (by rw [hf]; omega) (by omega) (by rw [hf, hen]; rfl) (by rw [hm2, hen]; omega) rfl (by rw [heA, hec, hen]; exact OwnV.nil _ _ _ _) (by rw [hhA, hhc, hhn]; exact OwnV.nil _ _ _ _) h2.mp (Nat.zero_le _) (by omega) (by omega)
        hv2 (by simp [mvS]) (fun e => by cases e) reads_noneL (by simp [mvS]) (fun _ => ⟨rfl, rfl⟩) reads_noneL (by simp [mvS]) (fun _ => ⟨rfl, rfl⟩) rfl).mono ?_
      rintro r w' ⟨rfl, A, c, A', c', zs, n', L', k3, o3, o4, m3, hn3, f3⟩
      rw [hen, hhn] at k3
      refine ⟨0, rfl, rfl, A, c, A', c', n', L', ⟨k3, m3, ?_, h.hg, h.hB⟩⟩
      refine h2.bel.trans (f3.below h2.bel.size ?_)
      rintro b hb (e | e | e | e)
      · omega
      · omega
      · rw [heA] at e; cases e
      · rw [hhA] at e; cases e
    · rintro r w' ⟨k, hk, hr, A, c, A', c', n, L, hs⟩
      rw [hr] at hk
      injection hk with hk
      injection hk with _ hk
      subst hk
      exact ⟨0, hr, _, hs.blk, rfl, A, c, A', c', n, L, rfl, hs⟩
  · rintro r w' ⟨k, s', w0, rfl, hb, ⟨rfl, A, c, A', c', n, L, rfl, hs⟩, rfl⟩
    exact ⟨rfl, A, c, A', c', n, L, hs.set⟩
set_option maxRecDepth 8000 in
set_option maxHeartbeats 1600000 in
theorem hear3 (g gn : Nat) (s : SV) (n : Nat) (L : List Int) (w W : World) (ht : Tab w) (h : Ses w W g s n L) (hmet : s.met = true) (hcode : s.code = 0) (hf : s.f2 = 0) (hen : s.en = 1) (hv : Rd W (some ⟨gn, 0, none⟩) [116]) :
    Calls Tryd.prog 11 #[.pointer (some ⟨g, 0, none⟩), .agg (mvC (mvS 4 2) (some ⟨gn, 0, none⟩) 1 none 0 none 0)] W fun r w' => r = .returned (.int .u64 4) ∧ Ses w w' g { s with code := 4 } n L := by
  refine (Hear_any g s (mvS 4 2) (some ⟨gn, 0, none⟩) 1 none 0 none 0 W (fun k s' w' => k = 4 ∧ s' = s ∧ Ses w w' g s n L) h.blk hcode ?_).mono ?_
  · intro W1 b1
    have h1 := h.below b1
    have hv1 := hv.below b1
    refine (hear_req g s (mvS 4 2) (some ⟨gn, 0, none⟩) 1 none 0 none 0 W1 (fun r w' => r = .returned (.int .u64 4) ∧ Ses w w' g s n L) h1.blk hmet rfl (ht.below h1.bel) (by decide +kernel) (goodS 4 2 (by unfold InR; omega) (by unfold InR; omega)) ⟨hv1, reads_noneL, reads_noneL⟩ (by simp [mvS]) (by simp [mvS]) (by simp [mvS]) ?_).mono ?_
    · intro W2 b2
      have h2 := h1.below b2
      refine (hearReq_bad g s (mvS 4 2) (some ⟨gn, 0, none⟩) 1 none 0 none 0 W2 h2.blk (by rw [hf]; omega) (by omega) (by rw [hf, hen]; decide)).mono ?_
      rintro r w' ⟨rfl, b3⟩
      exact ⟨4, rfl, rfl, h2.below b3⟩
    · rintro r w' ⟨k, hk, hr, hs⟩
      rw [hr] at hk
      injection hk with hk
      injection hk with _ hk
      subst hk
      exact ⟨4, hr, _, hs.blk, rfl, rfl, hs⟩
  · rintro r w' ⟨k, s', w0, rfl, hb, ⟨rfl, rfl, hs⟩, rfl⟩
    exact ⟨rfl, hs.set⟩
end Go.Proofs.YtdcjnkakibeigaaDoor

/-
  talk: the law's first question.
-/
namespace Go.Proofs.YtdcjnkakibeigaaDoor
open Go.RowKit
set_option linter.unusedVariables false
set_option linter.unusedSimpArgs false
theorem reads_litL (w : World) (a : Int) : RdI .u64 (w.alloc (.cells #[.int .u64 a] 22)) (some ⟨w.heap.size, 0, none⟩) [a] := by
  refine ⟨rfl, fun _ => ⟨_, rfl, by simp, fun j u hu => ?_⟩⟩
  have hj : j = 0 := by
    rcases Nat.eq_zero_or_pos j with h | h
    · exact h
    · rw [List.getElem?_eq_none (by simp [IV]; omega)] at hu; cases hu
  subst hj
  simp [IV] at hu
  subst hu
  simp [Addr.add]
set_option maxRecDepth 20000 in
set_option maxHeartbeats 1600000 in
theorem awake17_any (w : World) (ht : Tab w) : Calls Tryd.prog 7 #[] w fun r w' => r = .returned (.bool true) ∧ Below w.heap.size w w' := by
  have HT := Lib.hid ht
  have N0 := Lib.hid (New_srv 5 w (by omega) (by omega))
  have SB := Lib.hid (fun i a W => subscribe_any i a W)
  have H1 := Lib.hid (fun g s vA vc n L W => hear1 g s vA vc n L w W ht)
  have H2 := Lib.hid (fun g gn s W => hear2 g gn s w W ht)
  have H3 := Lib.hid (fun g gn s n L W => hear3 g gn s n L w W ht)
  unfold mvC mv1 at H1
  unfold mvC mvS at H2 H3
  simp only [List.length_nil, List.length_cons] at H1 H2 H3
  clear ht
  go_enter Tryd.func7, Tryd.ntmps7
  go_wp2_with fail
  refine N0.out.mono ?_
  rintro e w1 ⟨⟨g, B1, B2, rfl, hg, k1, m1, m2, hb1, hb2, hne⟩, bel⟩
  have S1 := Lib.hid (show Ses w w1 g (svNew 5 B1 B2) 0 [] from ⟨k1, m2, bel, hg, hb2⟩)
  clear N0 k1 m1 m2 hb1 hb2 hne bel hg
  have b1 : Below w1.heap.size w1 (w1.alloc (.cells #[.int .u64 1] 22)) := (Below.refl _ _).alloc (Nat.le_refl _) _
  have C1 := Lib.hid (H1.out g (svNew 5 B1 B2) (some ⟨w1.heap.size, 0, none⟩) 1 0 [] _ (S1.out.below b1) rfl rfl rfl rfl rfl rfl (reads_litL w1 1))
  clear H1
  go_wp2_with fail
  refine C1.out.mono ?_
  rintro e w2 ⟨rfl, A', c', s2⟩
  have S2 := Lib.hid s2
  clear s2 C1 S1 b1
  go_wp2_with fail
  refine (SB.out 0 1 w2).mono ?_
  rintro e w3 ⟨gn, rfl, r3, b3⟩
  have C2 := Lib.hid (H2.out g gn _ w3 (S2.out.below b3) rfl rfl rfl rfl rfl rfl rfl rfl rfl rfl r3)
  clear H2 r3 b3 S2
  go_wp2_with fail
  refine C2.out.mono ?_
  rintro e w4 ⟨rfl, A2, c2, A3, c3, n, L, s4⟩
  have S4 := Lib.hid s4
  clear s4 C2
  go_wp2_with fail
  refine (SB.out 4 2 w4).mono ?_
  rintro e w5 ⟨gn2, rfl, r5, b5⟩
  have C3 := Lib.hid (H3.out g gn2 _ n L w5 (S4.out.below b5) rfl rfl rfl rfl r5)
  clear H3 r5 b5 S4
  go_wp2_with fail
  refine C3.out.mono ?_
  rintro e w6 ⟨rfl, s6⟩
  have S6 := Lib.hid s6
  have UP := Lib.hid (Up_code g w6 true 4 s6.blk.lt (s6.blk.cell 1) (s6.blk.cell 2))
  clear s6 C3
  go_wp2_with fail
  refine UP.out.mono ?_
  rintro e w7 ⟨rfl, rfl⟩
  go_wp2_with fail
  go_ret
  exact ⟨rfl, S6.out.bel⟩
end Go.Proofs.YtdcjnkakibeigaaDoor

/-
  talk: Setups (made by mkTalkP.py).
-/
namespace Go.Proofs.YtdcjnkakibeigaaDoor
open Go.RowKit
set_option linter.unusedVariables false
set_option linter.unusedSimpArgs false
def mvCS (n : Int) (vs : List Int) : MV := ⟨32, 0, 0, [], 0, 0, 0, 0, 0, 0, false, 0, [], n, 0, vs⟩
def mvSV (v n : Int) : MV := ⟨33, 0, 0, [], 0, 0, 0, 0, 0, 0, false, 0, [], n, v, []⟩
theorem fieldsCS : ∀ b1 b2 : Bool, decide (bits .andNot .u16 (orW b1 (orW ((0 : Int) != 0) (orW b2 (orW (decide (0 < ([] : List Int).length)) (orW ((0 : Int) != 0) (orW (decide (¬ ((0 : Int) = 0 ∧ (0 : Int) = 0))) (orW (decide (¬ ((0 : Int) = 0 ∧ (0 : Int) = 0))) (orW false (orW ((0 : Int) != 0) (orW ((0 : Int) != 0) (orW (decide (0 < ([] : List Int).length)) (orW ((0 : Int) != 0) (orW ((0 : Int) != 0) (0) 1) 2) 4) 8) 16) 32) 64) 128) 256) 512) 1024) 2048) 4096) (foW 32) = 0) = true := by decide +kernel
theorem fieldsSV : ∀ b1 b2 : Bool, decide (bits .andNot .u16 (orW b1 (orW b2 (orW (decide (0 < ([] : List Int).length)) (orW (decide (0 < ([] : List Int).length)) (orW ((0 : Int) != 0) (orW (decide (¬ ((0 : Int) = 0 ∧ (0 : Int) = 0))) (orW (decide (¬ ((0 : Int) = 0 ∧ (0 : Int) = 0))) (orW false (orW ((0 : Int) != 0) (orW ((0 : Int) != 0) (orW (decide (0 < ([] : List Int).length)) (orW ((0 : Int) != 0) (orW ((0 : Int) != 0) (0) 1) 2) 4) 8) 16) 32) 64) 128) 256) 512) 1024) 2048) 4096) (foW 33) = 0) = true := by decide +kernel
theorem valid_CS (n : Int) (vs : List Int) (hn : n < 4611686018427387904) (hv : ∀ x ∈ vs, x ≤ 4611686018427387903) (hl : vs.length ≤ 8) : validB (mvCS n vs) = decide (1 ≤ vs.length) := by
  have e1 : decide (bits .andNot .u16 (setW (mvCS n vs)) (foW 32) = 0) = true := fieldsCS (n != 0) (decide (0 < vs.length))
  have e2 : encW (mvCS n vs) = true := by
    unfold encW mvCS
    apply decide_eq_true
    intro x hx
    simp only [List.mem_append, List.mem_cons, List.not_mem_nil, or_false] at hx
    rcases hx with (hx | hx | hx | hx | hx | hx | hx | hx | hx) | hx
    all_goals first | (subst hx; omega) | exact hv x hx
  have e3 : fitB (mvCS n vs) = decide (1 ≤ vs.length) := by
    have : fitB (mvCS n vs) = (decide (1 ≤ vs.length) && decide (vs.length ≤ 8)) := rfl
    rw [this, decide_eq_true hl, Bool.and_true]
  have e0 : knW 32 = true := by decide
  unfold validB
  rw [show (mvCS n vs).kind = 32 from rfl, e0, e1, e2, e3]
  simp
theorem valid_SV (v n : Int) (hn : n < 4611686018427387904) (hv : v < 5) : validB (mvSV v n) = true := by
  have e1 : decide (bits .andNot .u16 (setW (mvSV v n)) (foW 33) = 0) = true := fieldsSV (n != 0) (v != 0)
  have e2 : encW (mvSV v n) = true := by
    unfold encW mvSV
    apply decide_eq_true
    intro x hx
    simp only [List.mem_append, List.mem_cons, List.not_mem_nil, or_false] at hx
    rcases hx with hx | hx | hx | hx | hx | hx | hx | hx | hx
    all_goals (subst hx; omega)
  have e3 : fitB (mvSV v n) = true := rfl
  have e0 : knW 33 = true := by decide
  unfold validB
  rw [show (mvSV v n).kind = 33 from rfl, e0, e1, e2, e3]
  simp
set_option maxRecDepth 8000 in
set_option maxHeartbeats 3200000 in
theorem hear_bad (g : Nat) (s : SV) (m : MV) (nA : Option Addr) (nc : Nat) (rA : Option Addr) (rc : Nat) (vA : Option Addr) (vc : Nat) (w : World) (h : Blk w g 66 s.cells) (ht : Tab w) (hval : validB m = false) (hr : GM w.heap.size w nA rA vA m)
    (hn : m.name.length ≤ 9223372036854775807) (hrl : m.reason.length ≤ 9223372036854775807) (hl : m.vers.length ≤ 1000000) :
    Calls Tryd.prog 26 #[.pointer (some ⟨g, 0, none⟩), .agg (mvC m nA nc rA rc vA vc)] w fun r w' => r = .returned (.int .u64 3) ∧ Below w.heap.size w w' := by
  have VA := Lib.hid (fun W' (b : Below w.heap.size w W') => validT_any m nA nc rA rc vA vc W' (ht.below b) (fun e => absurd (hval.symm.trans e) (by simp)) ((hr.below b).grow b.size) hn hrl hl)
  obtain ⟨srv, met, code, f1, m1, aA, an, ac, bA, bn, bc, B1, f2, m2, eA, en, ec, hA, hn', hc, B2, oA, on_, oc⟩ := s
  obtain ⟨kind, id, al, name, prio, ord, sg, so, eg, eo, sm, code', reason, nn, ver, vers⟩ := m
  rw [hval] at VA
  unfold mvC at *
  simp only at VA ⊢
  obtain ⟨W, hW⟩ : ∃ W, W = w.alloc (.cells #[.int .u64 kind, .int .u64 id, .int .u64 al, .slice nA name.length nc, .int .u8 prio, .int .u8 ord, .int .u64 sg, .int .u64 so, .int .u64 eg, .int .u64 eo, .bool sm, .int .u64 code', .slice rA reason.length rc, .int .u64 nn, .int .u64 ver, .slice vA vers.length vc] 31) := ⟨_, rfl⟩
  have bw := show Below w.heap.size w W by rw [hW]; exact (Below.refl _ _).alloc (Nat.le_refl _) _
  obtain ⟨gb, hgb⟩ : ∃ g, g = w.heap.size := ⟨_, rfl⟩
  have K0 := Lib.hid (show Blk W gb 31 #[.int .u64 kind, .int .u64 id, .int .u64 al, .slice nA name.length nc, .int .u8 prio, .int .u8 ord, .int .u64 sg, .int .u64 so, .int .u64 eg, .int .u64 eo, .bool sm, .int .u64 code', .slice rA reason.length rc, .int .u64 nn, .int .u64 ver, .slice vA vers.length vc] by rw [hW, hgb]; exact Blk.new _ _ _)
  have H0 := Lib.hid (h.below bw h.lt)
  have B0 := Lib.hid bw
  have HW := Lib.hid hW
  have HGB := Lib.hid hgb
  clear hW bw h hgb
  go_enter Tryd.func26, Tryd.ntmps26
  go_upto_region 1 with (fail)
  rw [← HW.out, ← HGB.out]
  have k0 := K0.out.cell 0
  have k1 := K0.out.cell 1
  have k2 := K0.out.cell 2
  have k3 := K0.out.cell 3
  have k4 := K0.out.cell 4
  have k5 := K0.out.cell 5
  have k6 := K0.out.cell 6
  have k7 := K0.out.cell 7
  have k8 := K0.out.cell 8
  have k9 := K0.out.cell 9
  have k10 := K0.out.cell 10
  have k11 := K0.out.cell 11
  have k12 := K0.out.cell 12
  have k13 := K0.out.cell 13
  have k14 := K0.out.cell 14
  have k15 := K0.out.cell 15
  simp only [List.getElem?_toArray, List.getElem?_cons_zero, List.getElem?_cons_succ] at k0 k1 k2 k3 k4 k5 k6 k7 k8 k9 k10 k11 k12 k13 k14 k15
  have zb := K0.out.lt
  go_wp2_with fail
  refine (VA.out W B0.out).mono ?_
  rintro e w1 ⟨rfl, b1⟩
  have B1 := Lib.hid (B0.out.trans (b1.mono B0.out.size))
  clear k0 k1 k2 k3 k4 k5 k6 k7 k8 k9 k10 k11 k12 k13 k14 k15 zb b1 VA
  go_wp2_with fail
  go_ret
  exact ⟨rfl, B1.out⟩
theorem about_no (k : Int) (hk : k = 32 ∨ k = 33) (w : World) : Calls Tryd.prog 51 #[.int .u64 k] w fun r w' => r = .returned (.int .u64 0) ∧ w = w' := by
  rcases hk with rfl | rfl
  all_goals (
    go_enter Tryd.func51, Tryd.ntmps51
    go_wp2_with fail
    go_ret
    exact ⟨rfl, rfl⟩)
theorem info_step : (Tryd.prog.info? 78).map (·.size) = some 4 := by kernel_rfl
theorem results_row_tmpP {P : Program} {fn : Func} {p u : Tmp} {ty : TypeId} (h : fn.results = #[.cell p ty, .tmp u]) (tmps : Array Value) (w : World) (g : Nat) (t : TypeId) (cs : Array Value) (fr : Nat × Nat) (d : TypeDesc)
    (hp : tmps.getD p undef = .pointer (some ⟨g, 0, none⟩)) (hg : w.heap[g]? = some (.cells cs t fr))
    (hu : P.underlying ty = some d) (hd : (match d with | .struct _ | .array _ _ => true | _ => false) = true) (hi : (P.info? ty).map (·.size) = some cs.size) :
    (results fn tmps).run P w = .ok (.tuple #[.agg cs, tmps.getD u undef]) w := by
  rw [results_cell_tmp h, hp]
  simp only [asAddr, Sem.run_pure, Result.andThen_ok, run_loadVar_row w g t ty cs fr d hg hu hd hi]
set_option maxRecDepth 8000 in
set_option maxHeartbeats 1600000 in
theorem stepOf_no (k : Int) (hk : k = 32 ∨ k = 33) (w : World) : Calls Tryd.prog 37 #[.int .u64 k] w fun r w' => r = .returned (.tuple #[.agg #[.int .u64 0, .bool false, .slice none 0 0, .int .i64 0], .bool false]) ∧ Below w.heap.size w w' := by
  have AB := Lib.hid (fun W => about_no k hk W)
  obtain ⟨W, hW⟩ : ∃ W, W = w.alloc (.cells #[.int .u64 0, .bool false, .slice none 0 0, .int .i64 0] 78) := ⟨_, rfl⟩
  have K0 : Blk W w.heap.size 78 #[.int .u64 0, .bool false, .slice none 0 0, .int .i64 0] := by rw [hW]; exact Blk.new _ _ _
  have b0 : Below w.heap.size w W := by rw [hW]; exact (Below.refl _ _).alloc (Nat.le_refl _) _
  have z0 : W.heap.size = w.heap.size + 1 := by rw [hW]; simp
  obtain ⟨g, hg⟩ : ∃ g, g = w.heap.size := ⟨_, rfl⟩
  have K1 := Blk.new W 78 #[.int .u64 0, .bool false, .slice none 0 0, .int .i64 0]
  obtain ⟨W2, hW2⟩ : ∃ v, v = (W.alloc (.cells #[.int .u64 0, .bool false, .slice none 0 0, .int .i64 0] 78)).setRow W.heap.size #[.int .u64 0, .bool false, .slice none 0 0, .int .i64 0] := ⟨_, rfl⟩
  have K2 : Blk W2 g 78 #[.int .u64 0, .bool false, .slice none 0 0, .int .i64 0] := by rw [hW2, hg]; exact setRow_farT (K0.alloc _) (by omega) _
  have b2 : Below w.heap.size w W2 := by rw [hW2]; exact below_gsL (b0.alloc b0.size _) (only_setRowT _ _ _) (by omega) (by simp; omega)
  have HK2 := Lib.hid K2
  have HB2 := Lib.hid b2
  have HG := Lib.hid hg
  have HW := Lib.hid hW
  have HW2 := Lib.hid hW2
  clear hW hW2 K0 b0 K2 b2 hg z0
  rcases hk with rfl | rfl
  all_goals (
    go_enter Tryd.func37, Tryd.ntmps37
    go_upto_region 1 with (fail)
    rw [← HW.out, ← HG.out]
    go_wp2_with fail
    refine (AB.out W).mono ?_
    rintro e w1 ⟨rfl, rfl⟩
    go_upto_region 2 with (refine wpList_store_row rfl 78 (.tmp 4) (.tmp 7) rfl W.heap.size _ rfl rfl 78 _ K1 info_step rfl (by simp [Value.oneCell']) ?_)
    rw [← HW2.out]
    clear K1
    have k2 := HK2.out
    go_wp2_with (refine wpList_store_row rfl 78 (.tmp 2) (.tmp 9) rfl g _ rfl rfl 78 _ k2 info_step rfl (by simp [Value.oneCell']) ?_)
    refine bodyPost_ret (results_row_tmpP rfl _ _ g 78 #[.int .u64 0, .bool false, .slice none 0 0, .int .i64 0] (0, 0) _ rfl (setRowT k2 _) Tryd.underlying78 rfl (by kernel_rfl)) rfl ⟨rfl, ?_⟩
    exact below_gsL HB2.out (only_setRowT _ _ _) (by have := HG.out; omega) HB2.out.size)
set_option maxRecDepth 8000 in
set_option maxHeartbeats 3200000 in
theorem hear_again (g : Nat) (s : SV) (m : MV) (nA : Option Addr) (nc : Nat) (rA : Option Addr) (rc : Nat) (vA : Option Addr) (vc : Nat) (w : World) (h : Blk w g 66 s.cells) (hmet : s.met = true) (hkind : m.kind = 32 ∨ m.kind = 33) (ht : Tab w) (hval : validB m = true) (hg : GoodV m ∧ InR m.kind) (hr : GM w.heap.size w nA rA vA m)
    (hn : m.name.length ≤ 9223372036854775807) (hrl : m.reason.length ≤ 9223372036854775807) (hl : m.vers.length ≤ 1000000) :
    Calls Tryd.prog 26 #[.pointer (some ⟨g, 0, none⟩), .agg (mvC m nA nc rA rc vA vc)] w fun r w' => r = .returned (.int .u64 3) ∧ Below w.heap.size w w' := by
  have VA := Lib.hid (fun W' (b : Below w.heap.size w W') => validT_any m nA nc rA rc vA vc W' (ht.below b) (fun _ => hg) ((hr.below b).grow b.size) hn hrl hl)
  obtain ⟨srv, met, code, f1, m1, aA, an, ac, bA, bn, bc, B1, f2, m2, eA, en, ec, hA, hn', hc, B2, oA, on_, oc⟩ := s
  obtain ⟨kind, id, al, name, prio, ord, sg, so, eg, eo, sm, code', reason, nn, ver, vers⟩ := m
  simp only at hmet hkind
  subst hmet
  have IR := Lib.hid (fun W => isRequest_any kind W)
  rw [show (kind == 3 || kind == 6 || kind == 22) = false by rcases hkind with rfl | rfl <;> rfl] at IR
  have SO := Lib.hid (fun W => stepOf_no kind hkind W)
  have n21 : decide (kind = 21) = false := by rcases hkind with rfl | rfl <;> rfl
  have n16 : decide (kind = 16) = false := by rcases hkind with rfl | rfl <;> rfl
  have m21 : ¬ kind = 21 := by omega
  have m16 : ¬ kind = 16 := by omega
  rw [hval] at VA
  unfold mvC at *
  unfold SV.cells at *
  simp only at h VA ⊢
  obtain ⟨W, hW⟩ : ∃ W, W = w.alloc (.cells #[.int .u64 kind, .int .u64 id, .int .u64 al, .slice nA name.length nc, .int .u8 prio, .int .u8 ord, .int .u64 sg, .int .u64 so, .int .u64 eg, .int .u64 eo, .bool sm, .int .u64 code', .slice rA reason.length rc, .int .u64 nn, .int .u64 ver, .slice vA vers.length vc] 31) := ⟨_, rfl⟩
  have bw := show Below w.heap.size w W by rw [hW]; exact (Below.refl _ _).alloc (Nat.le_refl _) _
  obtain ⟨gb, hgb⟩ : ∃ g, g = w.heap.size := ⟨_, rfl⟩
  have K0 := Lib.hid (show Blk W gb 31 #[.int .u64 kind, .int .u64 id, .int .u64 al, .slice nA name.length nc, .int .u8 prio, .int .u8 ord, .int .u64 sg, .int .u64 so, .int .u64 eg, .int .u64 eo, .bool sm, .int .u64 code', .slice rA reason.length rc, .int .u64 nn, .int .u64 ver, .slice vA vers.length vc] by rw [hW, hgb]; exact Blk.new _ _ _)
  have H0 := Lib.hid (h.below bw h.lt)
  have B0 := Lib.hid bw
  have HW := Lib.hid hW
  have HGB := Lib.hid hgb
  clear hW bw h hgb
  go_enter Tryd.func26, Tryd.ntmps26
  clear hkind hval hg hr hn hrl hl ht
  go_upto_region 1 with (fail)
  rw [← HW.out, ← HGB.out]
  have k0 := K0.out.cell 0
  have k1 := K0.out.cell 1
  have k2 := K0.out.cell 2
  have k3 := K0.out.cell 3
  have k4 := K0.out.cell 4
  have k5 := K0.out.cell 5
  have k6 := K0.out.cell 6
  have k7 := K0.out.cell 7
  have k8 := K0.out.cell 8
  have k9 := K0.out.cell 9
  have k10 := K0.out.cell 10
  have k11 := K0.out.cell 11
  have k12 := K0.out.cell 12
  have k13 := K0.out.cell 13
  have k14 := K0.out.cell 14
  have k15 := K0.out.cell 15
  simp only [List.getElem?_toArray, List.getElem?_cons_zero, List.getElem?_cons_succ] at k0 k1 k2 k3 k4 k5 k6 k7 k8 k9 k10 k11 k12 k13 k14 k15
  have zb := K0.out.lt
  go_wp2_with fail
  refine (VA.out W B0.out).mono ?_
  rintro e w1 ⟨rfl, b1⟩
  clear k0 k1 k2 k3 k4 k5 k6 k7 k8 k9 k10 k11 k12 k13 k14 k15 zb
  have K1 := Lib.hid (K0.out.below b1 K0.out.lt)
  have H1 := Lib.hid (H0.out.below b1 H0.out.lt)
  have B1 := Lib.hid (B0.out.trans (b1.mono B0.out.size))
  clear b1 K0 H0 B0 VA
  have k0 := K1.out.cell 0
  simp only [List.getElem?_toArray, List.getElem?_cons_zero, List.getElem?_cons_succ] at k0
  have zb := K1.out.lt
  have d1 := H1.out.cell 1
  simp only [List.getElem?_toArray, List.getElem?_cons_zero, List.getElem?_cons_succ] at d1
  have zg := H1.out.lt
  go_wp2_with fail
  refine (IR.out w1).mono ?_
  rintro e w2 ⟨rfl, rfl⟩
  go_wp2_with fail
  refine (SO.out w1).mono ?_
  rintro e w2 ⟨rfl, b2⟩
  clear k0 zb d1 zg
  have K2 := Lib.hid (K1.out.below b2 K1.out.lt)
  have B2 := Lib.hid (B1.out.trans (b2.mono B1.out.size))
  clear b2 K1 B1
  have K3 := Blk.new w2 78 #[.int .u64 0, .bool false, .slice none 0 0, .int .i64 0]
  go_upto_region 8 with (refine wpList_store_row rfl 78 (.tmp 5) (.tmp 28) rfl w2.heap.size _ rfl rfl 78 _ K3 info_step rfl (by simp [Value.oneCell']) ?_)
  obtain ⟨w3, hw3⟩ : ∃ v, v = (w2.alloc (.cells #[.int .u64 0, .bool false, .slice none 0 0, .int .i64 0] 78)).setRow w2.heap.size #[.int .u64 0, .bool false, .slice none 0 0, .int .i64 0] := ⟨_, rfl⟩
  have b3 : Below w2.heap.size w2 w3 := by rw [hw3]; exact below_gsL ((Below.refl _ _).alloc (Nat.le_refl _) _) (only_setRowT _ _ _) (Nat.le_refl _) (by simp)
  rw [← hw3]
  clear hw3 K3
  have K4 := Lib.hid (K2.out.below b3 K2.out.lt)
  have B4 := Lib.hid (B2.out.trans (b3.mono B2.out.size))
  clear b3 K2 B2
  have k0 := K4.out.cell 0
  simp only [List.getElem?_toArray, List.getElem?_cons_zero, List.getElem?_cons_succ] at k0
  have zb := K4.out.lt
  go_wp2_with fail
  go_ret
  exact ⟨rfl, B4.out⟩
end Go.Proofs.YtdcjnkakibeigaaDoor

/-
  talk: meet, every way that TalkSetups takes; a client's New (made by mkTalkQ.py).
-/
namespace Go.Proofs.YtdcjnkakibeigaaDoor
open Go.RowKit
set_option linter.unusedVariables false
set_option linter.unusedSimpArgs false
set_option maxRecDepth 8000 in
set_option maxHeartbeats 3200000 in
theorem meet_srvno (g : Nat) (s : SV) (m : MV) (nA : Option Addr) (nc : Nat) (rA : Option Addr) (rc : Nat) (vA : Option Addr) (vc : Nat) (w : World) (h : Blk w g 66 s.cells) (hs : s.srv = true) (hk : m.kind = 32) (hv : ¬ (1 : Int) ∈ m.vers) (h3 : RdI .u64 w vA m.vers) (h3l : m.vers.length ≤ 1000000) :
    Calls Tryd.prog 41 #[.pointer (some ⟨g, 0, none⟩), .agg (mvC m nA nc rA rc vA vc)] w fun r w' => r = .returned (.int .u64 21) ∧ Below w.heap.size w w' := by
  obtain ⟨srv, met, code, f1, m1, aA, an, ac, bA, bn, bc, B1, f2, m2, eA, en, ec, hA, hn', hc, B2, oA, on_, oc⟩ := s
  obtain ⟨kind, id, al, name, prio, ord, sg, so, eg, eo, sm, code', reason, nn, ver, vers⟩ := m
  simp only at hs hk
  subst hs
  subst hk
  have CT := Lib.hid (fun W' (b : Below w.heap.size w W') => containsU_any vA vc vers 1 W' (h3.below b) h3l)
  rw [decide_eq_false hv] at CT
  unfold mvC at *
  unfold SV.cells at *
  simp only at *
  obtain ⟨W, hW⟩ : ∃ W, W = w.alloc (.cells #[.int .u64 32, .int .u64 id, .int .u64 al, .slice nA name.length nc, .int .u8 prio, .int .u8 ord, .int .u64 sg, .int .u64 so, .int .u64 eg, .int .u64 eo, .bool sm, .int .u64 code', .slice rA reason.length rc, .int .u64 nn, .int .u64 ver, .slice vA vers.length vc] 31) := ⟨_, rfl⟩
  have bw := show Below w.heap.size w W by rw [hW]; exact (Below.refl _ _).alloc (Nat.le_refl _) _
  obtain ⟨gb, hgb⟩ : ∃ g, g = w.heap.size := ⟨_, rfl⟩
  have K0 := Lib.hid (show Blk W gb 31 #[.int .u64 32, .int .u64 id, .int .u64 al, .slice nA name.length nc, .int .u8 prio, .int .u8 ord, .int .u64 sg, .int .u64 so, .int .u64 eg, .int .u64 eo, .bool sm, .int .u64 code', .slice rA reason.length rc, .int .u64 nn, .int .u64 ver, .slice vA vers.length vc] by rw [hW, hgb]; exact Blk.new _ _ _)
  have H0 := Lib.hid (h.below bw h.lt)
  have B0 := Lib.hid bw
  have HW := Lib.hid hW
  have HGB := Lib.hid hgb
  clear hW bw h hgb
  go_enter Tryd.func41, Tryd.ntmps41
  go_upto_region 2 with (fail)
  rw [← HW.out, ← HGB.out]
  have d0 := H0.out.cell 0
  simp only [List.getElem?_toArray, List.getElem?_cons_zero, List.getElem?_cons_succ] at d0
  have k0 := K0.out.cell 0
  have k13 := K0.out.cell 13
  have k14 := K0.out.cell 14
  have k15 := K0.out.cell 15
  simp only [List.getElem?_toArray, List.getElem?_cons_zero, List.getElem?_cons_succ] at k0 k13 k14 k15
  have zg := H0.out.lt
  have zb := K0.out.lt
  go_wp2_with fail
  refine (CT.out W B0.out).mono ?_
  rintro e w1 ⟨rfl, rfl⟩
  go_wp2_with fail
  go_ret
  exact ⟨rfl, B0.out⟩
set_option maxRecDepth 8000 in
set_option maxHeartbeats 3200000 in
theorem meet_clino (g : Nat) (s : SV) (m : MV) (nA : Option Addr) (nc : Nat) (rA : Option Addr) (rc : Nat) (vA : Option Addr) (vc : Nat) (w : World) (h : Blk w g 66 s.cells) (hs : s.srv = false) (hk : m.kind = 33) (hv : ¬ m.ver = 1) :
    Calls Tryd.prog 41 #[.pointer (some ⟨g, 0, none⟩), .agg (mvC m nA nc rA rc vA vc)] w fun r w' => r = .returned (.int .u64 21) ∧ Below w.heap.size w w' := by
  obtain ⟨srv, met, code, f1, m1, aA, an, ac, bA, bn, bc, B1, f2, m2, eA, en, ec, hA, hn', hc, B2, oA, on_, oc⟩ := s
  obtain ⟨kind, id, al, name, prio, ord, sg, so, eg, eo, sm, code', reason, nn, ver, vers⟩ := m
  simp only at hs hk
  subst hs
  subst hk
  have hvd : decide (ver = 1) = false := by simpa using hv
  unfold mvC at *
  unfold SV.cells at *
  simp only at *
  obtain ⟨W, hW⟩ : ∃ W, W = w.alloc (.cells #[.int .u64 33, .int .u64 id, .int .u64 al, .slice nA name.length nc, .int .u8 prio, .int .u8 ord, .int .u64 sg, .int .u64 so, .int .u64 eg, .int .u64 eo, .bool sm, .int .u64 code', .slice rA reason.length rc, .int .u64 nn, .int .u64 ver, .slice vA vers.length vc] 31) := ⟨_, rfl⟩
  have bw := show Below w.heap.size w W by rw [hW]; exact (Below.refl _ _).alloc (Nat.le_refl _) _
  obtain ⟨gb, hgb⟩ : ∃ g, g = w.heap.size := ⟨_, rfl⟩
  have K0 := Lib.hid (show Blk W gb 31 #[.int .u64 33, .int .u64 id, .int .u64 al, .slice nA name.length nc, .int .u8 prio, .int .u8 ord, .int .u64 sg, .int .u64 so, .int .u64 eg, .int .u64 eo, .bool sm, .int .u64 code', .slice rA reason.length rc, .int .u64 nn, .int .u64 ver, .slice vA vers.length vc] by rw [hW, hgb]; exact Blk.new _ _ _)
  have H0 := Lib.hid (h.below bw h.lt)
  have B0 := Lib.hid bw
  have HW := Lib.hid hW
  have HGB := Lib.hid hgb
  clear hW bw h hgb
  go_enter Tryd.func41, Tryd.ntmps41
  go_upto_region 2 with (fail)
  rw [← HW.out, ← HGB.out]
  have d0 := H0.out.cell 0
  simp only [List.getElem?_toArray, List.getElem?_cons_zero, List.getElem?_cons_succ] at d0
  have k0 := K0.out.cell 0
  have k13 := K0.out.cell 13
  have k14 := K0.out.cell 14
  have k15 := K0.out.cell 15
  simp only [List.getElem?_toArray, List.getElem?_cons_zero, List.getElem?_cons_succ] at k0 k13 k14 k15
  have zg := H0.out.lt
  have zb := K0.out.lt
  go_wp2_with fail
  go_ret
  exact ⟨rfl, B0.out⟩
set_option maxRecDepth 8000 in
set_option maxHeartbeats 3200000 in
theorem meet_cliok (g : Nat) (s : SV) (m : MV) (nA : Option Addr) (nc : Nat) (rA : Option Addr) (rc : Nat) (vA : Option Addr) (vc : Nat) (w : World) (h : Blk w g 66 s.cells) (hs : s.srv = false) (hk : m.kind = 33) (hv : m.ver = 1) (M1 : Int) (hM1 : M1 = min m.n 1152921504606846976) :
    Calls Tryd.prog 41 #[.pointer (some ⟨g, 0, none⟩), .agg (mvC m nA nc rA rc vA vc)] w fun r w' => r = .returned (.int .u64 0) ∧ Blk w' g 66 { s with met := true, m1 := M1 }.cells ∧ Frm w w' (fun b => b = g) := by
  obtain ⟨srv, met, code, f1, m1, aA, an, ac, bA, bn, bc, B1, f2, m2, eA, en, ec, hA, hn', hc, B2, oA, on_, oc⟩ := s
  obtain ⟨kind, id, al, name, prio, ord, sg, so, eg, eo, sm, code', reason, nn, ver, vers⟩ := m
  simp only at hs hk
  subst hs
  subst hk
  subst hv
  have Z1 : (if nn < 1152921504606846976 then nn else (1152921504606846976 : Int)) = M1 := by rw [hM1]; simp only; split <;> omega
  have Z2 : (if (1152921504606846976 : Int) < nn then (1152921504606846976 : Int) else nn) = M1 := by rw [hM1]; simp only; split <;> omega
  have Z3 : min nn 1152921504606846976 = M1 := by rw [hM1]
  clear hM1
  unfold mvC at *
  unfold SV.cells at *
  simp only at *
  obtain ⟨W, hW⟩ : ∃ W, W = w.alloc (.cells #[.int .u64 33, .int .u64 id, .int .u64 al, .slice nA name.length nc, .int .u8 prio, .int .u8 ord, .int .u64 sg, .int .u64 so, .int .u64 eg, .int .u64 eo, .bool sm, .int .u64 code', .slice rA reason.length rc, .int .u64 nn, .int .u64 1, .slice vA vers.length vc] 31) := ⟨_, rfl⟩
  have bw := show Below w.heap.size w W by rw [hW]; exact (Below.refl _ _).alloc (Nat.le_refl _) _
  obtain ⟨gb, hgb⟩ : ∃ g, g = w.heap.size := ⟨_, rfl⟩
  have K0 := Lib.hid (show Blk W gb 31 #[.int .u64 33, .int .u64 id, .int .u64 al, .slice nA name.length nc, .int .u8 prio, .int .u8 ord, .int .u64 sg, .int .u64 so, .int .u64 eg, .int .u64 eo, .bool sm, .int .u64 code', .slice rA reason.length rc, .int .u64 nn, .int .u64 1, .slice vA vers.length vc] by rw [hW, hgb]; exact Blk.new _ _ _)
  have H0 := Lib.hid (h.below bw h.lt)
  have B0 := Lib.hid bw
  have HW := Lib.hid hW
  have HGB := Lib.hid hgb
  clear hW bw h hgb
  go_enter Tryd.func41, Tryd.ntmps41
  go_upto_region 2 with (fail)
  rw [← HW.out, ← HGB.out]
  have d0 := H0.out.cell 0
  simp only [List.getElem?_toArray, List.getElem?_cons_zero, List.getElem?_cons_succ] at d0
  have k0 := K0.out.cell 0
  have k13 := K0.out.cell 13
  have k14 := K0.out.cell 14
  have k15 := K0.out.cell 15
  simp only [List.getElem?_toArray, List.getElem?_cons_zero, List.getElem?_cons_succ] at k0 k13 k14 k15
  have zg := H0.out.lt
  have zb := K0.out.lt
  have d1 := H0.out.cell 1
  have f1' := H0.out.frozen 1
  simp only [List.getElem?_toArray, List.getElem?_cons_zero, List.getElem?_cons_succ] at d1
  have hgne : gb ≠ g := by intro e; subst e; have a := K0.out.cell 0; have b := H0.out.cell 0; simp only [List.getElem?_toArray, List.getElem?_cons_zero] at a b; rw [a] at b; cases b
  have H4 := Lib.hid (H0.out.set_ 1 (.bool true))
  have K4 := Lib.hid (K0.out.far (p := ⟨g, 1, none⟩) hgne (.bool true))
  have gs : W.grownBy (W.setCell ⟨g, 1, none⟩ (.bool true)) (some g) := only_set (only_refl W (some g)) (p := ⟨g, 1, none⟩) rfl _
  have F4 := Lib.hid (Frm.set (Frm.of_below (S := fun b => b = g) B0.out) (p := ⟨g, 1, none⟩) (.inr rfl) (.bool true))
  obtain ⟨w3, hw3⟩ : ∃ v, v = W.setCell ⟨g, 1, none⟩ (.bool true) := ⟨_, rfl⟩
  go_upto_region 10 with (fail)
  rw [← hw3] at H4 K4 F4 ⊢
  clear hw3 gs d1 f1'
  have d4 := H4.out.cell 4
  have f4 := H4.out.frozen 4
  have z4 := H4.out.lt
  have k13 := K4.out.cell 13
  have zb := K4.out.lt
  simp only [List.setIfInBounds_toArray, List.set_cons_zero, List.set_cons_succ, List.getElem?_toArray, List.getElem?_cons_zero, List.getElem?_cons_succ] at d4 k13
  have H5 := Lib.hid (H4.out.set_ 4 (.int .u64 M1))
  have F5 := Lib.hid (F4.out.set (p := ⟨g, 4, none⟩) (.inr rfl) (.int .u64 M1))
  go_wp2_with fail
  go_ret
  exact ⟨rfl, H5.out, F5.out⟩
set_option maxRecDepth 8000 in
set_option maxHeartbeats 3200000 in
theorem meet_srvN (g base : Nat) (xs : List Value) (s : SV) (m : MV) (nA : Option Addr) (nc : Nat) (rA : Option Addr) (rc : Nat) (vA : Option Addr) (vc : Nat) (w : World) (h : Blk w g 66 s.cells) (hs : s.srv = true) (hk : m.kind = 32) (hv : (1 : Int) ∈ m.vers) (h3 : RdI .u64 w vA m.vers) (h3l : m.vers.length ≤ 1000000)
    (ho : OwnV w base 31 16 s.oA s.oc s.on_ xs) (hb : base ≤ w.heap.size) (hl : s.on_ ≤ 1000000) (M1 : Int) (hM1 : M1 = min m.n 1152921504606846976) :
    Calls Tryd.prog 41 #[.pointer (some ⟨g, 0, none⟩), .agg (mvC m nA nc rA rc vA vc)] w fun r w' => r = .returned (.int .u64 0) ∧
      ∃ A' c', Blk w' g 66 { s with met := true, m1 := M1, oA := A', on_ := s.on_ + 1, oc := c' }.cells ∧ OwnV w' base 31 16 A' c' (s.on_ + 1) (xs ++ (mvC (mvSS s.m2) none 0 none 0 none 0).toList) ∧
        Frm w w' (fun b => b = g ∨ (Value.slice s.oA s.on_ s.oc).ownBlock = some b) := by
  obtain ⟨srv, met, code, f1, m1, aA, an, ac, bA, bn, bc, B1, f2, m2, eA, en, ec, hA, hn', hc, B2, oA, on_, oc⟩ := s
  obtain ⟨kind, id, al, name, prio, ord, sg, so, eg, eo, sm, code', reason, nn, ver, vers⟩ := m
  simp only at hs hk
  subst hs
  subst hk
  have SE := Lib.hid (fun W' (hh : Blk W' g 66 #[.bool true, .bool met, .int .u64 code, .int .u64 f1, .int .u64 m1, .slice aA an ac, .slice bA bn bc, .map (some B1), .int .u64 f2, .int .u64 m2, .slice eA en ec, .slice hA hn' hc, .map (some B2), .slice oA on_ oc]) (hO : OwnV W' base 31 16 oA oc on_ xs) (hb : base ≤ W'.heap.size) => send_any g base ⟨true, met, code, f1, m1, aA, an, ac, bA, bn, bc, B1, f2, m2, eA, en, ec, hA, hn', hc, B2, oA, on_, oc⟩ xs (mvSS m2) none 0 none 0 none 0 W' hh hO hb hl)
  unfold mvC at *
  unfold SV.cells at *
  unfold mvSS at *
  simp only [List.length_nil] at h hv h3 h3l ho hl hM1 SE ⊢
  have CT := Lib.hid (fun W' (b : Below w.heap.size w W') => containsU_any vA vc vers 1 W' (h3.below b) h3l)
  rw [decide_eq_true hv] at CT
  have Z1 : (if nn < 1152921504606846976 then nn else (1152921504606846976 : Int)) = M1 := by rw [hM1]; split <;> omega
  have Z2 : (if (1152921504606846976 : Int) < nn then (1152921504606846976 : Int) else nn) = M1 := by rw [hM1]; split <;> omega
  have Z3 : min nn 1152921504606846976 = M1 := by rw [hM1]
  clear hM1
  obtain ⟨W, hW⟩ : ∃ W, W = w.alloc (.cells #[.int .u64 32, .int .u64 id, .int .u64 al, .slice nA name.length nc, .int .u8 prio, .int .u8 ord, .int .u64 sg, .int .u64 so, .int .u64 eg, .int .u64 eo, .bool sm, .int .u64 code', .slice rA reason.length rc, .int .u64 nn, .int .u64 ver, .slice vA vers.length vc] 31) := ⟨_, rfl⟩
  have bw := show Below w.heap.size w W by rw [hW]; exact (Below.refl _ _).alloc (Nat.le_refl _) _
  obtain ⟨gb, hgb⟩ : ∃ g, g = w.heap.size := ⟨_, rfl⟩
  have K0 := Lib.hid (show Blk W gb 31 #[.int .u64 32, .int .u64 id, .int .u64 al, .slice nA name.length nc, .int .u8 prio, .int .u8 ord, .int .u64 sg, .int .u64 so, .int .u64 eg, .int .u64 eo, .bool sm, .int .u64 code', .slice rA reason.length rc, .int .u64 nn, .int .u64 ver, .slice vA vers.length vc] by rw [hW, hgb]; exact Blk.new _ _ _)
  have H0 := Lib.hid (h.below bw h.lt)
  have O0 := Lib.hid (OwnV.below ho bw)
  have B0 := Lib.hid bw
  have HW := Lib.hid hW
  have HGB := Lib.hid hgb
  have hbW : base ≤ W.heap.size := by have := bw.size; omega
  have HROW := Lib.hid (show ∀ k, (Value.slice oA on_ oc).ownBlock = some k → k < w.heap.size from fun k e => OwnV.row_lt ho e)
  have HGW := Lib.hid hgb
  clear hW bw h hgb hv h3 h3l ho hb
  go_enter Tryd.func41, Tryd.ntmps41
  go_upto_region 2 with (fail)
  rw [← HW.out, ← HGB.out]
  have d0 := H0.out.cell 0
  have d9 := H0.out.cell 9
  simp only [List.getElem?_toArray, List.getElem?_cons_zero, List.getElem?_cons_succ] at d0 d9
  have k0 := K0.out.cell 0
  have k13 := K0.out.cell 13
  have k15 := K0.out.cell 15
  simp only [List.getElem?_toArray, List.getElem?_cons_zero, List.getElem?_cons_succ] at k0 k13 k15
  have zg := H0.out.lt
  have zb := K0.out.lt
  go_wp2_with fail
  refine (CT.out W B0.out).mono ?_
  rintro e w1 ⟨rfl, rfl⟩
  go_wp2_with fail
  refine (SE.out _ H0.out O0.out hbW).mono ?_
  rintro e w2 ⟨rfl, A', c', hk2, ho2, fr, _⟩
  have K2 := Lib.hid (fr.keep K0.out (fun e => by rcases e with e | e; exact (Blk.ne_ K0.out H0.out (by decide) e); exact absurd (HROW.out gb e) (by have := HGW.out; omega)))
  have hg3 := Lib.hid hk2
  have HO3 := Lib.hid ho2
  have FR3 := Lib.hid ((Frm.of_below (S := fun b => b = g ∨ (Value.slice oA on_ oc).ownBlock = some b) B0.out).trans (fr.mono (fun _ _ h => h)))
  clear hk2 ho2 fr SE CT d0 d9 k0 k13 k15 zg zb
  have d1 := hg3.out.cell 1
  have f1' := hg3.out.frozen 1
  have z1 := hg3.out.lt
  simp only [List.getElem?_toArray, List.getElem?_cons_zero, List.getElem?_cons_succ] at d1
  have hgne : gb ≠ g := by have := Blk.ne_ K0.out H0.out; intro e; subst e; have a := K2.out.cell 0; have b := hg3.out.cell 0; simp only [List.getElem?_toArray, List.getElem?_cons_zero] at a b; rw [a] at b; cases b
  have gs : w2.grownBy (w2.setCell ⟨g, 1, none⟩ (.bool true)) (some g) := only_set (only_refl w2 (some g)) (p := ⟨g, 1, none⟩) rfl _
  have H4 := Lib.hid (hg3.out.set_ 1 (.bool true))
  have K4 := Lib.hid (K2.out.far (p := ⟨g, 1, none⟩) hgne (.bool true))
  have O4 := Lib.hid (OwnV.grownT HO3.out hg3.out (by decide) gs)
  have F4 := Lib.hid (FR3.out.set (p := ⟨g, 1, none⟩) (.inr (.inl rfl)) (.bool true))
  obtain ⟨w3, hw3⟩ : ∃ v, v = w2.setCell ⟨g, 1, none⟩ (.bool true) := ⟨_, rfl⟩
  go_upto_region 10 with (fail)
  rw [← hw3] at H4 K4 O4 F4 ⊢
  clear hw3 gs d1 f1' z1 hg3 K2 HO3 FR3
  have d4 := H4.out.cell 4
  have f4 := H4.out.frozen 4
  have z4 := H4.out.lt
  have k13 := K4.out.cell 13
  have zb := K4.out.lt
  simp only [List.setIfInBounds_toArray, List.set_cons_zero, List.set_cons_succ, List.getElem?_toArray, List.getElem?_cons_zero, List.getElem?_cons_succ] at d4 k13
  have gs : w3.grownBy (w3.setCell ⟨g, 4, none⟩ (.int .u64 M1)) (some g) := only_set (only_refl w3 (some g)) (p := ⟨g, 4, none⟩) rfl _
  have H5 := Lib.hid (H4.out.set_ 4 (.int .u64 M1))
  have O5 := Lib.hid (OwnV.grownT O4.out H4.out (by decide) gs)
  have F5 := Lib.hid (F4.out.set (p := ⟨g, 4, none⟩) (.inr (.inl rfl)) (.int .u64 M1))
  clear gs H0 K0 O0 B0
  go_wp2_with fail
  go_ret
  exact ⟨rfl, A', c', H5.out, O5.out, F5.out⟩
set_option maxRecDepth 8000 in
set_option maxHeartbeats 1600000 in
theorem New_cli (lets : Int) (w : World) (h0 : 0 ≤ lets) (h1 : lets < 1152921504606846976) : Calls Tryd.prog 18 #[.bool false, .int .u64 lets] w fun r w' => ∃ (g : Nat) (s : SV), r = .returned (.pointer (some ⟨g, 0, none⟩)) ∧ w.heap.size ≤ g ∧ Blk w' g 66 s.cells ∧ s.srv = false ∧ s.met = false ∧ s.code = 0 ∧ Below w.heap.size w w' := by
  have hmin : min lets 1152921504606846976 = lets := by omega
  have hd : decide (lets ≤ 1152921504606846976) = true := by simpa using (by omega)
  have C1 := Lib.hid (fun b W => newSide_any b W)
  go_enter Tryd.func18, Tryd.ntmps18
  go_wp2_with fail
  refine (C1.out false w).mono ?_
  rintro e w1 ⟨B1, rfl, m1, z1, b1⟩
  have hm1 := Lib.hid m1
  have l1 := m1.lt
  have hb1 := Lib.hid b1
  rw [if_neg (by simp)]
  unfold sdC
  clear m1 b1
  go_wp2_with fail
  refine (C1.out true w1).mono ?_
  rintro e w2 ⟨B2, rfl, m2, z2, b2⟩
  rw [if_pos rfl]
  unfold sdC
  have hm2 := Lib.hid m2
  have hb2 := Lib.hid b2
  have hm1 := Lib.hid (hm1.out.below b2)
  have hne : B1 ≠ B2 := by omega
  have hb3 := Lib.hid (hb1.out.trans (b2.mono hb1.out.size))
  obtain ⟨NC, hNC⟩ : ∃ NC : Array Value, NC = #[.bool false, .bool false, .int .u64 0, .int .u64 0, .int .u64 0, .slice none 0 0, .slice none 0 0, .map (some B1), .int .u64 1, .int .u64 0, .slice none 0 0, .slice none 0 0, .map (some B2), .slice none 0 0] := ⟨_, rfl⟩
  obtain ⟨w3, hw3⟩ : ∃ v, v = w2.alloc (.cells NC 66) := ⟨_, rfl⟩
  obtain ⟨g, hg⟩ : ∃ g, g = w2.heap.size := ⟨_, rfl⟩
  have K3 := Lib.hid (show Blk w3 g 66 #[.bool false, .bool false, .int .u64 0, .int .u64 0, .int .u64 0, .slice none 0 0, .slice none 0 0, .map (some B1), .int .u64 1, .int .u64 0, .slice none 0 0, .slice none 0 0, .map (some B2), .slice none 0 0] by rw [hw3, hg, ← hNC]; exact Blk.new _ _ _)
  have b3 : Below w2.heap.size w2 w3 := by rw [hw3]; exact (Below.refl _ _).alloc (Nat.le_refl _) _
  have M1 := Lib.hid (hm1.out.below b3)
  have M2 := Lib.hid (hm2.out.below b3)
  have B3 := Lib.hid (hb3.out.trans (b3.mono hb3.out.size))
  have zg : w.heap.size ≤ g := by have := hb3.out.size; omega
  rw [hNC] at hw3
  have HW3 := Lib.hid hw3
  have HG := Lib.hid hg
  have z2 : w.heap.size ≤ B2 := by have := hb1.out.size; omega
  clear hNC hw3 hg b3 hm1 hm2 hb1 hb2 hb3 b2 m2 l1 C1
  go_upto_region 2 with (fail)
  rw [← HW3.out, ← HG.out]
  have d9 := K3.out.cell 9
  have f9 := K3.out.frozen 9
  simp only [List.getElem?_toArray, List.getElem?_cons_zero, List.getElem?_cons_succ] at d9
  have z9 := K3.out.lt
  obtain ⟨w4, hw4⟩ : ∃ v, v = w3.setCell ⟨g, 9, none⟩ (.int .u64 lets) := ⟨_, rfl⟩
  have K4 := Lib.hid (K3.out.set_ 9 (.int .u64 lets))
  have B4 := Lib.hid (B3.out.setCell (p := ⟨g, 9, none⟩) zg (.int .u64 lets))
  go_upto_region 4 with (fail)
  rw [← hw4] at K4 B4 ⊢
  clear d9 f9 z9 hw4
  obtain ⟨w5, hw5⟩ : ∃ v, v = w4.alloc (.cells #[.int .u64 1] 22) := ⟨_, rfl⟩
  have b5 : Below w4.heap.size w4 w5 := by rw [hw5]; exact (Below.refl _ _).alloc (Nat.le_refl _) _
  have K5 := Lib.hid (K4.out.below b5 K4.out.lt)
  have B5 := Lib.hid (B4.out.trans (b5.mono B4.out.size))
  simp only [List.setIfInBounds_toArray, List.set_cons_zero, List.set_cons_succ] at K5
  have d9 := K5.out.cell 9
  simp only [List.getElem?_toArray, List.getElem?_cons_zero, List.getElem?_cons_succ] at d9
  have z9 := K5.out.lt
  have d9' := K4.out.cell 9
  simp only [List.setIfInBounds_toArray, List.set_cons_zero, List.set_cons_succ, List.getElem?_toArray, List.getElem?_cons_zero, List.getElem?_cons_succ] at d9'
  have z9' := K4.out.lt
  have SE := Lib.hid (send_any g 0 ⟨false, false, 0, 0, 0, none, 0, 0, none, 0, 0, B1, 1, lets, none, 0, 0, none, 0, 0, B2, none, 0, 0⟩ [] (mvCS lets [1]) none 0 none 0 (some ⟨w4.heap.size, 0, none⟩) 1 w5 K5.out (OwnV.nil _ _ _ _) (Nat.zero_le _) (by simp))
  unfold mvC mvCS at SE
  simp only [List.length_nil, List.length_cons] at SE
  have HW5 := Lib.hid hw5
  clear hw5 b5
  go_wp2_with (first | rw [← HW5.out] | fail)
  refine SE.out.mono ?_
  rintro e w6 ⟨rfl, A', c', k6, o6, f6, _⟩
  have K6 := Lib.hid k6
  have B6 := Lib.hid (B5.out.trans (f6.below B5.out.size (by
    rintro b hb (e | e)
    · omega
    · cases e)))
  clear k6 o6 f6 SE
  go_wp2_with fail
  go_ret
  exact ⟨g, _, rfl, zg, K6.out, rfl, rfl, rfl, B6.out⟩
end Go.Proofs.YtdcjnkakibeigaaDoor

/-
  talk: what Hear answers to Setups.
-/
namespace Go.Proofs.YtdcjnkakibeigaaDoor
open Go.RowKit
set_option linter.unusedVariables false
set_option linter.unusedSimpArgs false
structure Sc (w W : World) (g : Nat) (s : SV) : Prop where
  blk : Blk W g 66 s.cells
  bel : Below w.heap.size w W
  hg : w.heap.size ≤ g
theorem Sc.below {w W W' : World} {g : Nat} {s : SV} (h : Sc w W g s) (hb : Below W.heap.size W W') : Sc w W' g s := ⟨h.blk.below hb h.blk.lt, h.bel.trans (hb.mono h.bel.size), h.hg⟩
/-- What Hear leaves. -/
structure HT17 (W w' : World) (g : Nat) (s' : SV) (b : Bool) (k : Int) : Prop where
  blk : Blk w' g 66 s'.cells
  met : s'.met = b
  code : s'.code = k
  frm : Frm W w' (fun b => b = g)
theorem HT17.sc {w W w' : World} {g : Nat} {s s' : SV} {b : Bool} {k : Int} (h : HT17 W w' g s' b k) (hs : Sc w W g s) : Sc w w' g s' :=
  ⟨h.blk, hs.bel.trans (h.frm.below hs.bel.size (by rintro b hb rfl; have := hs.hg; omega)), hs.hg⟩
theorem HearS (g : Nat) (s : SV) (m : MV) (vA : Option Addr) (vc : Nat) (W : World) (k : Int) (b : Bool) (h : Blk W g 66 s.cells) (hcode : s.code = 0)
    (C : ∀ W', Below W.heap.size W W' → Calls Tryd.prog 26 #[.pointer (some ⟨g, 0, none⟩), .agg (mvC m none 0 none 0 vA vc)] W' fun r w' => r = .returned (.int .u64 k) ∧ ∃ (s' : SV), Blk w' g 66 s'.cells ∧ s'.met = b ∧ Frm W w' (fun b => b = g)) :
    Calls Tryd.prog 11 #[.pointer (some ⟨g, 0, none⟩), .agg (mvC m none 0 none 0 vA vc)] W fun r w' => r = .returned (.int .u64 k) ∧ ∃ (s' : SV), HT17 W w' g s' b k := by
  refine (Hear_any g s m none 0 none 0 vA vc W (fun k' s' w' => k' = k ∧ s'.met = b ∧ Frm W w' (fun b => b = g)) h hcode ?_).mono ?_
  · intro W1 b1
    refine (C W1 b1).mono ?_
    rintro r w' ⟨hr, s', hb, hm, hbe⟩
    exact ⟨k, hr, s', hb, rfl, hm, hbe⟩
  · rintro r w' ⟨k', s', w0, rfl, hb, ⟨rfl, hm, hbe⟩, rfl⟩
    exact ⟨rfl, { s' with code := k' }, ⟨hb.set_ 2 _, hm, rfl, hbe.set (p := ⟨g, 2, none⟩) (.inr rfl) _⟩⟩
theorem goodCS (n : Int) (vs : List Int) (n0 : 0 ≤ n) (hn : n < 4611686018427387904) (hv : ∀ x ∈ vs, 0 ≤ x ∧ x < 5) (hl : vs.length ≤ 8) : GoodV (mvCS n vs) ∧ InR (mvCS n vs).kind := by
  refine ⟨⟨?_, ?_, ?_, ?_, ?_, ?_, ?_, ⟨n0, hn⟩, ?_, ?_, ?_, hl, fun x hx => ?_⟩, ?_⟩
  all_goals first | (have := hv x hx; omega) | (simp [InR, mvCS]; done)
theorem goodSV (v n : Int) (n0 : 0 ≤ n) (hn : n < 4611686018427387904) (v0 : 0 ≤ v) (hv : v < 5) : GoodV (mvSV v n) ∧ InR (mvSV v n).kind := by
  refine ⟨⟨?_, ?_, ?_, ?_, ?_, ?_, ?_, ⟨n0, hn⟩, ⟨v0, by show v < _; omega⟩, ?_, ?_, ?_, fun x hx => ?_⟩, ?_⟩
  all_goals first | (simp [mvSV] at hx; done) | (simp [InR, mvSV]; done)
/-- A message that is a Setup as the law makes it. -/
structure SetupM (srv : Bool) (m : MV) (ok : Bool) : Prop where
  good : GoodV m ∧ InR m.kind
  kind : m.kind = if srv then 32 else 33
  vers : srv = true → (ok = true ↔ (1 : Int) ∈ m.vers)
  ver : srv = false → (ok = true ↔ m.ver = 1)
  name : m.name = []
  reason : m.reason = []
theorem setupGM {srv ok : Bool} {m : MV} {W : World} {vA : Option Addr} (h : SetupM srv m ok) (hv : RdI .u64 W vA m.vers) : GM W.heap.size W none none vA m :=
  ⟨by rw [h.name]; exact reads_noneL, by rw [h.reason]; exact reads_noneL, hv⟩
section
variable {srv ok : Bool} {m : MV}
theorem setup_first (g : Nat) (s : SV) (vA : Option Addr) (vc : Nat) (W : World) (ht : Tab W) (hm : SetupM srv m ok) (hval : validB m = true) (h : Blk W g 66 s.cells) (hs : s.srv = srv) (hmet : s.met = false) (hcode : s.code = 0) (ho : srv = true → s.oA = none ∧ s.on_ = 0 ∧ s.oc = 0) (hv : RdI .u64 W vA m.vers) :
    Calls Tryd.prog 11 #[.pointer (some ⟨g, 0, none⟩), .agg (mvC m none 0 none 0 vA vc)] W fun r w' => r = .returned (.int .u64 (if ok then 0 else 21)) ∧ ∃ (s' : SV), HT17 W w' g s' ok (if ok then 0 else 21) := by
  have hnl : m.name.length ≤ 9223372036854775807 := by rw [hm.name]; simp
  have hrl : m.reason.length ≤ 9223372036854775807 := by rw [hm.reason]; simp
  have hvl : m.vers.length ≤ 1000000 := by have := hm.good.1.vl; omega
  refine HearS g s m vA vc W (if ok then 0 else 21) ok h hcode fun W1 b1 => ?_
  have h1 := h.below b1 h.lt
  have hv1 := hv.below b1
  have f1 : Frm W W1 (fun b => b = g) := Frm.of_below b1
  refine (hear_meet g s m none 0 none 0 vA vc W1 (fun r w' => r = .returned (.int .u64 (if ok then 0 else 21)) ∧ ∃ (s' : SV), Blk w' g 66 s'.cells ∧ s'.met = ok ∧ Frm W w' (fun b => b = g)) h1 hmet (ht.below b1) hval hm.good (setupGM hm hv1) hnl hrl hvl ?_).mono ?_
  · intro W2 b2
    have h2 := h1.below b2 h1.lt
    have hv2 := hv1.below b2
    have f2 : Frm W W2 (fun b => b = g) := f1.trans (Frm.of_below b2)
    cases srv with
    | true =>
      have hk : m.kind = 32 := hm.kind
      cases ok with
      | true =>
        obtain ⟨ho1, ho2, ho3⟩ := ho rfl
        refine (meet_srvN g 0 [] s m none 0 none 0 vA vc W2 h2 hs hk ((hm.vers rfl).1 rfl) hv2 hvl (by rw [ho1, ho2, ho3]; exact OwnV.nil _ _ _ _) (Nat.zero_le _) (by omega) _ rfl).mono ?_
        rintro r w' ⟨rfl, A', c', k3, o3, f3⟩
        refine ⟨0, rfl, rfl, _, k3, rfl, f2.trans (f3.mono ?_)⟩
        rintro b hb (e | e)
        · exact e
        · rw [ho1] at e; cases e
      | false =>
        refine (meet_srvno g s m none 0 none 0 vA vc W2 h2 hs hk (fun e => by have := (hm.vers rfl).2 e; cases this) hv2 hvl).mono ?_
        rintro r w' ⟨rfl, b3⟩
        exact ⟨21, rfl, rfl, s, h2.below b3 h2.lt, hmet, f2.then_below b3⟩
    | false =>
      have hk : m.kind = 33 := hm.kind
      cases ok with
      | true =>
        refine (meet_cliok g s m none 0 none 0 vA vc W2 h2 hs hk ((hm.ver rfl).1 rfl) _ rfl).mono ?_
        rintro r w' ⟨rfl, k3, f3⟩
        exact ⟨0, rfl, rfl, _, k3, rfl, f2.trans f3⟩
      | false =>
        refine (meet_clino g s m none 0 none 0 vA vc W2 h2 hs hk (fun e => by have := (hm.ver rfl).2 e; cases this)).mono ?_
        rintro r w' ⟨rfl, b3⟩
        exact ⟨21, rfl, rfl, s, h2.below b3 h2.lt, hmet, f2.then_below b3⟩
  · rintro r w' ⟨k, hk, hr, hs'⟩
    exact ⟨hr, hs'⟩
theorem setup_bad (g : Nat) (s : SV) (vA : Option Addr) (vc : Nat) (W : World) (ht : Tab W) (hm : SetupM srv m ok) (hval : validB m = false) (h : Blk W g 66 s.cells) (hcode : s.code = 0) (hv : RdI .u64 W vA m.vers) :
    Calls Tryd.prog 11 #[.pointer (some ⟨g, 0, none⟩), .agg (mvC m none 0 none 0 vA vc)] W fun r w' => r = .returned (.int .u64 3) ∧ ∃ (s' : SV), HT17 W w' g s' s.met 3 := by
  have hnl : m.name.length ≤ 9223372036854775807 := by rw [hm.name]; simp
  have hrl : m.reason.length ≤ 9223372036854775807 := by rw [hm.reason]; simp
  have hvl : m.vers.length ≤ 1000000 := by have := hm.good.1.vl; omega
  refine HearS g s m vA vc W 3 s.met h hcode fun W1 b1 => ?_
  have h1 := h.below b1 h.lt
  refine (hear_bad g s m none 0 none 0 vA vc W1 h1 (ht.below b1) hval (setupGM hm (hv.below b1)) hnl hrl hvl).mono ?_
  rintro r w' ⟨rfl, b3⟩
  exact ⟨rfl, s, h1.below b3 h1.lt, rfl, (Frm.of_below b1).then_below b3⟩
theorem setup_again (g : Nat) (s : SV) (vA : Option Addr) (vc : Nat) (W : World) (ht : Tab W) (hm : SetupM srv m ok) (hval : validB m = true) (h : Blk W g 66 s.cells) (hmet : s.met = true) (hcode : s.code = 0) (hv : RdI .u64 W vA m.vers) :
    Calls Tryd.prog 11 #[.pointer (some ⟨g, 0, none⟩), .agg (mvC m none 0 none 0 vA vc)] W fun r w' => r = .returned (.int .u64 3) ∧ ∃ (s' : SV), HT17 W w' g s' true 3 := by
  have hnl : m.name.length ≤ 9223372036854775807 := by rw [hm.name]; simp
  have hrl : m.reason.length ≤ 9223372036854775807 := by rw [hm.reason]; simp
  have hvl : m.vers.length ≤ 1000000 := by have := hm.good.1.vl; omega
  have hk : m.kind = 32 ∨ m.kind = 33 := by have := hm.kind; cases srv <;> simp at this <;> omega
  refine HearS g s m vA vc W 3 true h hcode fun W1 b1 => ?_
  have h1 := h.below b1 h.lt
  refine (hear_again g s m none 0 none 0 vA vc W1 h1 hmet hk (ht.below b1) hval hm.good (setupGM hm (hv.below b1)) hnl hrl hvl).mono ?_
  rintro r w' ⟨rfl, b3⟩
  exact ⟨rfl, s, h1.below b3 h1.lt, hmet, (Frm.of_below b1).then_below b3⟩
/-- A row of another block reads on. -/
theorem rdI_frm {W w' : World} {g : Nat} {A : Option Addr} {l : List Int} (h : RdI .u64 W A l) (hf : Frm W w' (fun b => b = g)) (hne : ∀ a, A = some a → a.block ≠ g) : RdI .u64 w' A l := by
  refine ⟨h.1, fun hl => ?_⟩
  obtain ⟨ad, e, hb, hc⟩ := h.2 hl
  subst e
  have hs := hf.size
  refine ⟨ad, rfl, by omega, fun j u hu => ?_⟩
  rw [← hc j u hu]
  unfold World.cell?
  rw [show (Addr.add ad j : Addr).block = ad.block by rw [block_of_add], hf.blk ad.block hb (hne ad rfl)]
end
theorem New_any (b : Bool) (w W : World) (hb : Below w.heap.size w W) : Calls Tryd.prog 18 #[.bool b, .int .u64 3] W fun r w' => ∃ (g : Nat) (s : SV), r = .returned (.pointer (some ⟨g, 0, none⟩)) ∧ Sc w w' g s ∧ W.heap.size ≤ g ∧ Below W.heap.size W w' ∧ s.srv = b ∧ s.met = false ∧ s.code = 0 ∧ (b = true → s.oA = none ∧ s.on_ = 0 ∧ s.oc = 0) := by
  have hz := hb.size
  cases b with
  | true =>
    refine (New_srv 3 W (by omega) (by omega)).mono ?_
    rintro r w' ⟨⟨g, B1, B2, rfl, hg, k1, _, _, _, _, _⟩, bel⟩
    exact ⟨g, _, rfl, ⟨k1, hb.trans (bel.mono hz), by omega⟩, hg, bel, rfl, rfl, rfl, fun _ => ⟨rfl, rfl, rfl⟩⟩
  | false =>
    refine (New_cli 3 W (by omega) (by omega)).mono ?_
    rintro r w' ⟨g, s, rfl, hg, k1, h1, h2, h3, bel⟩
    exact ⟨g, s, rfl, ⟨k1, hb.trans (bel.mono hz), by omega⟩, hg, bel, h1, h2, h3, fun e => by cases e⟩
end Go.Proofs.YtdcjnkakibeigaaDoor
