/-
  talk: add, a request more of a side (made by mkTalkF.py).
-/
import Derived.Test.YtdcjnkakibeigaaDoorTalkE
namespace Go.Proofs.YtdcjnkakibeigaaDoor
open Go.RowKit
set_option linter.unusedVariables false
set_option linter.unusedSimpArgs false
theorem info_ask3 : (Tryd.prog.info? 37).map (fun i => (i.zero, i.size, i.bytes)) = some (some (.agg #[.int .u64 0, .int .u64 0, .int .u64 0, .slice none 0 0, .int .u8 0, .int .u8 0, .int .u64 0, .int .u64 0, .int .u64 0, .int .u64 0, .bool false, .int .u64 0, .slice none 0 0, .int .u64 0, .int .u64 0, .slice none 0 0, .int .i64 0]), 17, 176) := by kernel_rfl
/-- Behind the first statement: the request stands in the row. -/
structure AddA (w wx : World) (base g o gb : Nat) (cs MC : Array Value) (mA : Option Addr) (mn mc : Nat) (lA : Option Addr) (ln lc : Nat) (ys : List Value) (B n : Nat) (L : List Int) : Prop where
  ex : ∃ A c zs, Blk wx g 66 (cs.setIfInBounds (o + 2) (.slice A (mn + 1) c)) ∧ OwnV wx base 37 17 A c (mn + 1) zs
  bx : Blk wx gb 31 MC
  lv : OwnV wx base 22 1 lA lc ln ys
  mp : MapE wx B n L
  fr : Frm w wx (fun b => b = g ∨ (Value.slice mA mn mc).ownBlock = some b)
/-- Behind the second statement. -/
structure AddB (w wx : World) (base g o gb : Nat) (cs1 MC : Array Value) (A2 : Option Addr) (mn c2 : Nat) (mA : Option Addr) (mc : Nat) (lA : Option Addr) (ln lc : Nat) (ys : List Value) (id : Int) (B n : Nat) (L : List Int) (zs : List Value) : Prop where
  ex : ∃ A c, Blk wx g 66 (cs1.setIfInBounds (o + 3) (.slice A (ln + 1) c)) ∧ OwnV wx base 22 1 A c (ln + 1) (ys ++ [.int .u64 id])
  ox : OwnV wx base 37 17 A2 c2 (mn + 1) zs
  bx : Blk wx gb 31 MC
  mp : MapE wx B n L
  fr : Frm w wx (fun b => b = g ∨ (Value.slice mA mn mc).ownBlock = some b ∨ (Value.slice lA ln lc).ownBlock = some b)
set_option maxRecDepth 8000 in
set_option maxHeartbeats 6400000 in
theorem add_any (g o base : Nat) (cs : Array Value) (mA : Option Addr) (mn mc : Nat) (lA : Option Addr) (ln lc : Nat) (B n : Nat) (L : List Int) (xs ys : List Value) (m : MV) (nA : Option Addr) (nc : Nat) (rA : Option Addr) (rc : Nat) (vA : Option Addr) (vc : Nat) (w : World)
    (h : Blk w g 66 cs) (e2 : cs[o + 2]? = some (.slice mA mn mc)) (e3 : cs[o + 3]? = some (.slice lA ln lc)) (e4 : cs[o + 4]? = some (.map (some B)))
    (hm : OwnV w base 37 17 mA mc mn xs) (hl : OwnV w base 22 1 lA lc ln ys) (hB : MapE w B n L) (hb : base ≤ w.heap.size) (hmn : mn ≤ 1000000) (hln : ln ≤ 1000000) (hn : n ≤ 1000000)
    (h1 : Rd w nA m.name) (h1l : m.name.length ≤ 70368744177664) (h1A : nA = none → m.name = [] ∧ nc = 0) (h2 : Rd w rA m.reason) (h2l : m.reason.length ≤ 70368744177664) (h2A : rA = none → m.reason = [] ∧ rc = 0)
    (h3 : RdI .u64 w vA m.vers) (h3l : m.vers.length ≤ 1000000) (h3A : vA = none → m.vers = [] ∧ vc = 0) (ha : (Lit.int .u64 m.alias_).wf = true) :
    Calls Tryd.prog 50 #[.pointer (some ⟨g, o, none⟩), .agg (mvC m nA nc rA rc vA vc)] w fun r w' => r = .returned (.tuple #[]) ∧
      ∃ A c A' c' zs n' L', Blk w' g 66 ((cs.setIfInBounds (o + 2) (.slice A (mn + 1) c)).setIfInBounds (o + 3) (.slice A' (ln + 1) c')) ∧ OwnV w' base 37 17 A c (mn + 1) zs ∧ OwnV w' base 22 1 A' c' (ln + 1) (ys ++ [.int .u64 m.id]) ∧
        MapE w' B n' L' ∧ n' ≤ n + 1 ∧ Frm w w' (fun b => b = g ∨ b = B ∨ (Value.slice mA mn mc).ownBlock = some b ∨ (Value.slice lA ln lc).ownBlock = some b) := by
  obtain ⟨kind, id, al, name, prio, ord, sg, so, eg, eo, sm, code, reason, nn, ver, vers⟩ := m
  have CL := Lib.hid (fun W' (b : Below w.heap.size w W') => cloneM_any ⟨kind, id, al, name, prio, ord, sg, so, eg, eo, sm, code, reason, nn, ver, vers⟩ nA nc rA rc vA vc W' (h1.below b) h1l h1A (h2.below b) h2l h2A (h3.below b) h3l h3A)
  unfold mvC at CL ⊢
  simp only at CL ha ⊢
  obtain ⟨W, hW⟩ : ∃ W, W = w.alloc (.cells #[.int .u64 kind, .int .u64 id, .int .u64 al, .slice nA name.length nc, .int .u8 prio, .int .u8 ord, .int .u64 sg, .int .u64 so, .int .u64 eg, .int .u64 eo, .bool sm, .int .u64 code, .slice rA reason.length rc, .int .u64 nn, .int .u64 ver, .slice vA vers.length vc] 31) := ⟨_, rfl⟩
  have bw := show Below w.heap.size w W by rw [hW]; exact (Below.refl _ _).alloc (Nat.le_refl _) _
  obtain ⟨gb, hgb⟩ : ∃ g, g = w.heap.size := ⟨_, rfl⟩
  have K0 := Lib.hid (show Blk W gb 31 #[.int .u64 kind, .int .u64 id, .int .u64 al, .slice nA name.length nc, .int .u8 prio, .int .u8 ord, .int .u64 sg, .int .u64 so, .int .u64 eg, .int .u64 eo, .bool sm, .int .u64 code, .slice rA reason.length rc, .int .u64 nn, .int .u64 ver, .slice vA vers.length vc] by rw [hW, hgb]; exact Blk.new _ _ _)
  have H0 := Lib.hid (h.below bw h.lt)
  have M0 := Lib.hid (OwnV.below hm bw)
  have L0 := Lib.hid (OwnV.below hl bw)
  have P0 := Lib.hid (hB.below bw)
  have B0 := Lib.hid bw
  have HW := Lib.hid hW
  have HGB := Lib.hid hgb
  have hgl : g < gb := by have := h.lt; omega
  have E2 := Lib.hid e2
  have E3 := Lib.hid e3
  have E4 := Lib.hid e4
  clear hW bw h hm hl hB hgb h1 h2 h3 h1l h2l h3l h1A h2A h3A
  go_enter Tryd.func50, Tryd.ntmps50
  go_upto_region 1 with (fail)
  rw [← HW.out, ← HGB.out]
  go_cut [] (fun wx => AddA w wx base g o gb cs #[.int .u64 kind, .int .u64 id, .int .u64 al, .slice nA name.length nc, .int .u8 prio, .int .u8 ord, .int .u64 sg, .int .u64 so, .int .u64 eg, .int .u64 eo, .bool sm, .int .u64 code, .slice rA reason.length rc, .int .u64 nn, .int .u64 ver, .slice vA vers.length vc] mA mn mc lA ln lc ys B n L)
  case first =>
    obtain ⟨u0, hu0⟩ : ∃ u, u = W.drew := ⟨_, rfl⟩
    have H1 := Lib.hid (show Blk u0 g 66 cs by rw [hu0]; exact H0.out.drew)
    have K1 := Lib.hid (show Blk u0 gb 31 #[.int .u64 kind, .int .u64 id, .int .u64 al, .slice nA name.length nc, .int .u8 prio, .int .u8 ord, .int .u64 sg, .int .u64 so, .int .u64 eg, .int .u64 eo, .bool sm, .int .u64 code, .slice rA reason.length rc, .int .u64 nn, .int .u64 ver, .slice vA vers.length vc] by rw [hu0]; exact K0.out.drew)
    have B1 := Lib.hid (show Below w.heap.size w u0 by rw [hu0]; exact B0.out.drew)
    have M1 := Lib.hid (show OwnV u0 base 37 17 mA mc mn xs by rw [hu0]; exact OwnV.below M0.out (Below.refl _ _).drew)
    have L1 := Lib.hid (show OwnV u0 base 22 1 lA lc ln ys by rw [hu0]; exact OwnV.below L0.out (Below.refl _ _).drew)
    have P1 := Lib.hid (show MapE u0 B n L by rw [hu0]; exact P0.out.below (Below.refl _ _).drew)
    refine wp_region_held_drew (S := fun w' => Blk w' gb 31 #[.int .u64 kind, .int .u64 id, .int .u64 al, .slice nA name.length nc, .int .u8 prio, .int .u8 ord, .int .u64 sg, .int .u64 so, .int .u64 eg, .int .u64 eo, .bool sm, .int .u64 code, .slice rA reason.length rc, .int .u64 nn, .int .u64 ver, .slice vA vers.length vc]) (by kernel_rfl) K0.out.drew (fun s0 => ?_)
    rw [← hu0] at s0 ⊢
    clear hu0
    refine wpAnyH_take (i := 0) (oi := ⟨_, _, _, _, _, _⟩) (v := .pointer (some ⟨g, o, none⟩)) rfl (by kernel_rfl) (by kernel_rfl) (by kernel_rfl) (fun _ _ _ h => h) (Or.inl ⟨by rfl, fun w' hS => by go_simp⟩) s0 ?_
    simp only [Act.put, List.setIfInBounds_toArray, List.set_cons_zero, List.set_cons_succ]
    refine wpAnyH_take (i := 1) (oi := ⟨_, _, _, _, _, _⟩) (v := .pointer (some ⟨g, o, none⟩)) rfl (by kernel_rfl) (by kernel_rfl) (by kernel_rfl) (fun _ _ _ h => h) (Or.inl ⟨by rfl, fun w' hS => by go_simp⟩) s0 ?_
    simp only [Act.put, List.setIfInBounds_toArray, List.set_cons_zero, List.set_cons_succ]
    refine wpAnyH_take (i := 2) (oi := ⟨_, _, _, _, _, _⟩) (v := .pointer (some ⟨g, o, none⟩)) rfl (by kernel_rfl) (by kernel_rfl) (by kernel_rfl) (fun _ _ _ h => h) (Or.inl ⟨by rfl, fun w' hS => by go_simp⟩) s0 ?_
    simp only [Act.put, List.setIfInBounds_toArray, List.set_cons_zero, List.set_cons_succ]
    refine wpAnyH_take (i := 3) (oi := ⟨_, _, _, _, _, _⟩) (v := .pointer (some ⟨g, o + 2, none⟩)) rfl (by kernel_rfl) (by kernel_rfl) (by kernel_rfl) (fun _ _ _ h => h) (Or.inl ⟨by rfl, fun w' hS => by go_simp⟩) s0 ?_
    simp only [Act.put, List.setIfInBounds_toArray, List.set_cons_zero, List.set_cons_succ]
    refine wpAnyH_take (i := 5) (oi := ⟨_, _, _, _, _, _⟩) (v := .agg #[.int .u64 kind, .int .u64 id, .int .u64 al, .slice nA name.length nc, .int .u8 prio, .int .u8 ord, .int .u64 sg, .int .u64 so, .int .u64 eg, .int .u64 eo, .bool sm, .int .u64 code, .slice rA reason.length rc, .int .u64 nn, .int .u64 ver, .slice vA vers.length vc]) rfl (by kernel_rfl) (by kernel_rfl) (by kernel_rfl) (fun _ _ _ h => h) (Or.inl ⟨by rfl, fun w' hS => by have c0 := hS.cell 0; have c1 := hS.cell 1; have c2 := hS.cell 2; have c3 := hS.cell 3; have c4 := hS.cell 4; have c5 := hS.cell 5; have c6 := hS.cell 6; have c7 := hS.cell 7; have c8 := hS.cell 8; have c9 := hS.cell 9; have c10 := hS.cell 10; have c11 := hS.cell 11; have c12 := hS.cell 12; have c13 := hS.cell 13; have c14 := hS.cell 14; have c15 := hS.cell 15; simp only [List.getElem?_toArray, List.getElem?_cons_zero, List.getElem?_cons_succ] at c0 c1 c2 c3 c4 c5 c6 c7 c8 c9 c10 c11 c12 c13 c14 c15; have z0 := hS.lt; go_simp⟩) s0 ?_
    simp only [Act.put, List.setIfInBounds_toArray, List.set_cons_zero, List.set_cons_succ]
    refine wpAnyH_ready (rs := [4, 6]) (by kernel_rfl) (by simp) ?_
    refine AllReadyH.cons rfl (fun K hK => ?_) (AllReadyH.cons rfl (fun K hK => ?_) AllReadyH.nil)
    · have c0 := H1.out.cell (o + 2)
      rw [E2.out] at c0
      have z0 := H1.out.lt
      go_simp
      refine hK.out _ _ s0 (fun s1 => ?_)
      clear hK K c0 z0
      refine wpAnyH_ready (rs := [6]) (by kernel_rfl) (by simp) ?_
      refine AllReadyH.cons rfl (fun K hK => ?_) AllReadyH.nil
      go_simp
      refine (CL.out u0 B1.out).mono ?_
      rintro e u1 ⟨nA2, nc2, rA2, rc2, vA2, vc2, rfl, _, _, _, hb1⟩
      refine hK.out _ _ (s1.below hb1 s1.lt) (fun s2 => ?_)
      clear hK K
      have H2 := Lib.hid (H1.out.below hb1 H1.out.lt)
      have K2 := Lib.hid (K1.out.below hb1 K1.out.lt)
      have M2 := Lib.hid (OwnV.below M1.out hb1)
      have L2 := Lib.hid (OwnV.below L1.out hb1)
      have P2 := Lib.hid (P1.out.below hb1)
      have B2 := Lib.hid (B1.out.trans (hb1.mono B1.out.size))
      clear hb1 s1 H1 K1 M1 L1 P1 B1
      refine wpAnyH_take (i := 7) (oi := ⟨_, _, _, _, _, _⟩) (v := .agg #[.int .u64 kind, .int .u64 id, .int .u64 al, .slice nA2 name.length nc2, .int .u8 prio, .int .u8 ord, .int .u64 sg, .int .u64 so, .int .u64 eg, .int .u64 eo, .bool sm, .int .u64 code, .slice rA2 reason.length rc2, .int .u64 nn, .int .u64 ver, .slice vA2 vers.length vc2, .int .i64 1]) rfl (by kernel_rfl) (by kernel_rfl) (by kernel_rfl) (fun _ _ _ h => h) (Or.inl ⟨by rfl, fun w' hS => by go_simp⟩) s2 ?_
      simp only [Act.put, List.setIfInBounds_toArray, List.set_cons_zero, List.set_cons_succ]
      refine wpAnyH_ready (rs := [8]) (by kernel_rfl) (by simp) ?_
      refine AllReadyH.cons rfl (fun K hK => ?_) AllReadyH.nil
      go_simp
      have hb2 : Below u1.heap.size u1 (u1.alloc (.cells #[.int .u64 kind, .int .u64 id, .int .u64 al, .slice nA2 name.length nc2, .int .u8 prio, .int .u8 ord, .int .u64 sg, .int .u64 so, .int .u64 eg, .int .u64 eo, .bool sm, .int .u64 code, .slice rA2 reason.length rc2, .int .u64 nn, .int .u64 ver, .slice vA2 vers.length vc2, .int .i64 1] 37)) := (Below.refl _ _).alloc (Nat.le_refl _) _
      have hk2 : Blk (u1.alloc (.cells #[.int .u64 kind, .int .u64 id, .int .u64 al, .slice nA2 name.length nc2, .int .u8 prio, .int .u8 ord, .int .u64 sg, .int .u64 so, .int .u64 eg, .int .u64 eo, .bool sm, .int .u64 code, .slice rA2 reason.length rc2, .int .u64 nn, .int .u64 ver, .slice vA2 vers.length vc2, .int .i64 1] 37)) u1.heap.size 37 #[.int .u64 kind, .int .u64 id, .int .u64 al, .slice nA2 name.length nc2, .int .u8 prio, .int .u8 ord, .int .u64 sg, .int .u64 so, .int .u64 eg, .int .u64 eo, .bool sm, .int .u64 code, .slice rA2 reason.length rc2, .int .u64 nn, .int .u64 ver, .slice vA2 vers.length vc2, .int .i64 1] := Blk.new _ _ _
      refine hK.out _ _ (s2.below hb2 s2.lt) (fun s3 => ?_)
      clear hK K
      obtain ⟨u2, hu2⟩ : ∃ u, u = u1.alloc (.cells #[.int .u64 kind, .int .u64 id, .int .u64 al, .slice nA2 name.length nc2, .int .u8 prio, .int .u8 ord, .int .u64 sg, .int .u64 so, .int .u64 eg, .int .u64 eo, .bool sm, .int .u64 code, .slice rA2 reason.length rc2, .int .u64 nn, .int .u64 ver, .slice vA2 vers.length vc2, .int .i64 1] 37) := ⟨_, rfl⟩
      obtain ⟨gq, hgq⟩ : ∃ g, g = u1.heap.size := ⟨_, rfl⟩
      rw [← hu2] at hb2 hk2 s3
      rw [← hgq] at hk2
      rw [← hu2, ← hgq]
      have Q3 := Lib.hid hk2
      have H3 := Lib.hid (H2.out.below hb2 H2.out.lt)
      have K3 := Lib.hid (K2.out.below hb2 K2.out.lt)
      have M3 := Lib.hid (OwnV.below M2.out hb2)
      have L3 := Lib.hid (OwnV.below L2.out hb2)
      have P3 := Lib.hid (P2.out.below hb2)
      have B3 := Lib.hid (B2.out.trans (hb2.mono B2.out.size))
      clear hu2 hgq hb2 hk2 s2 H2 K2 M2 L2 P2 B2
      refine wpAnyH_ready (rs := [9]) (by kernel_rfl) (by simp) ?_
      refine AllReadyH.cons rfl (fun K hK => ?_) AllReadyH.nil
      refine step_appV rfl (.tmp 8) (.tmp 12) 45 37 17 176 (.agg #[.int .u64 0, .int .u64 0, .int .u64 0, .slice none 0 0, .int .u8 0, .int .u8 0, .int .u64 0, .int .u64 0, .int .u64 0, .int .u64 0, .bool false, .int .u64 0, .slice none 0 0, .int .u64 0, .int .u64 0, .slice none 0 0, .int .i64 0]) rfl Tryd.underlying45 info_ask3 rfl (by omega) base (n := mn) (m := 1) (xs := xs) (news := [.int .u64 kind, .int .u64 id, .int .u64 al, .slice nA2 name.length nc2, .int .u8 prio, .int .u8 ord, .int .u64 sg, .int .u64 so, .int .u64 eg, .int .u64 eo, .bool sm, .int .u64 code, .slice rA2 reason.length rc2, .int .u64 nn, .int .u64 ver, .slice vA2 vers.length vc2, .int .i64 1]) (d := 1) rfl rfl M3.out (reads_newT Q3.out (Nat.succ_pos _)) (by intro u hu; simp only [List.mem_cons, List.not_mem_nil, or_false] at hu; rcases hu with rfl | rfl | rfl | rfl | rfl | rfl | rfl | rfl | rfl | rfl | rfl | rfl | rfl | rfl | rfl | rfl | rfl <;> rfl) (by unfold maxLen; omega) (by omega) (by have := B3.out.size; omega) ?_
      intro A2 c2 u3 hown hg _ _
      have hng : some g ≠ (Value.slice mA mn mc).ownBlock := fun e => OwnV.other M3.out (by decide) g _ H3.out e.symm
      have hnb : some gb ≠ (Value.slice mA mn mc).ownBlock := fun e => OwnV.other M3.out (by decide) gb _ K3.out e.symm
      have H4 := Lib.hid (H3.out.grown hg hng)
      have K4 := Lib.hid (K3.out.grown hg hnb)
      have L4 := Lib.hid (L3.out.grown hg (fun k cur hb e => OwnV.other M3.out (by decide) k _ hb e))
      have P4 := Lib.hid (P3.out.kept hg (fun e => by
        rcases OwnV.row_is M3.out with ⟨hA, _⟩ | ⟨g', cur, hA, _, hb, _⟩
        · rw [hA] at e; cases e
        · rw [hA] at e
          injection e with e
          exact P3.out.ne_blk hb e.symm))
      have F4 := Lib.hid ((Frm.of_below (S := fun b => b = g ∨ (Value.slice mA mn mc).ownBlock = some b) B3.out).grown hg (fun r hr => .inr (.inr hr)))
      have O4 := Lib.hid hown
      refine hK.out _ _ K4.out (fun s9 => ?_)
      clear hK K s3 hown hg hng hnb M3 L3 P3 B3 H3 K3 Q3
      simp only [List.getElem_toArray, List.getElem_cons_succ, List.getElem_cons_zero, Act.put, List.setIfInBounds_toArray, List.set_cons_succ, List.set_cons_zero]
      refine wpAnyH_take (i := 10) (oi := ⟨_, _, _, _, _, _⟩) (v := .pointer (some ⟨g, o, none⟩)) rfl (by kernel_rfl) (by kernel_rfl) (by kernel_rfl) (fun _ _ _ h => h) (Or.inl ⟨by rfl, fun w' hS => by go_simp⟩) s9 ?_
      simp only [Act.put, List.setIfInBounds_toArray, List.set_cons_zero, List.set_cons_succ]
      refine wpAnyH_take (i := 11) (oi := ⟨_, _, _, _, _, _⟩) (v := .pointer (some ⟨g, o + 2, none⟩)) rfl (by kernel_rfl) (by kernel_rfl) (by kernel_rfl) (fun _ _ _ h => h) (Or.inl ⟨by rfl, fun w' hS => by go_simp⟩) s9 ?_
      simp only [Act.put, List.setIfInBounds_toArray, List.set_cons_zero, List.set_cons_succ]
      refine wpAnyH_ready (rs := [12]) (by kernel_rfl) (by simp) ?_
      refine AllReadyH.cons rfl (fun K hK => ?_) AllReadyH.nil
      have c0 := H4.out.cell (o + 2)
      rw [E2.out] at c0
      have f0 := H4.out.frozen (o + 2)
      have z0 := H4.out.lt
      go_simp
      have hgb2 : gb ≠ g := by omega
      have gs : u3.grownBy (u3.setCell ⟨g, o + 2, none⟩ (.slice A2 (mn + 1) c2)) (some g) := only_set (only_refl u3 (some g)) (p := ⟨g, o + 2, none⟩) rfl _
      have hk9 : Blk (u3.setCell ⟨g, o + 2, none⟩ (.slice A2 (mn + 1) c2)) gb 31 #[.int .u64 kind, .int .u64 id, .int .u64 al, .slice nA name.length nc, .int .u8 prio, .int .u8 ord, .int .u64 sg, .int .u64 so, .int .u64 eg, .int .u64 eo, .bool sm, .int .u64 code, .slice rA reason.length rc, .int .u64 nn, .int .u64 ver, .slice vA vers.length vc] := K4.out.far (p := ⟨g, o + 2, none⟩) hgb2 _
      refine hK.out _ _ hk9 (fun s10 => ?_)
      clear hK K
      refine wpAnyH_done (by kernel_rfl) ?_ _
      go_wp2_with fail
      go_meet
      exact ⟨⟨A2, c2, _, H4.out.set_ (o + 2) _, OwnV.grownT O4.out H4.out (by decide) gs⟩, hk9, OwnV.grownT L4.out H4.out (by decide) gs, P4.out.kept gs (fun e => P4.out.ne_blk H4.out (by injection e with e; exact e.symm)), F4.out.set (p := ⟨g, o + 2, none⟩) (.inr (.inl rfl)) _⟩
    · go_simp
      refine (CL.out u0 B1.out).mono ?_
      rintro e u1 ⟨nA2, nc2, rA2, rc2, vA2, vc2, rfl, _, _, _, hb1⟩
      refine hK.out _ _ (s0.below hb1 s0.lt) (fun s2 => ?_)
      clear hK K
      have H2 := Lib.hid (H1.out.below hb1 H1.out.lt)
      have K2 := Lib.hid (K1.out.below hb1 K1.out.lt)
      have M2 := Lib.hid (OwnV.below M1.out hb1)
      have L2 := Lib.hid (OwnV.below L1.out hb1)
      have P2 := Lib.hid (P1.out.below hb1)
      have B2 := Lib.hid (B1.out.trans (hb1.mono B1.out.size))
      clear hb1 s0 H1 K1 M1 L1 P1 B1
      refine wpAnyH_take (i := 7) (oi := ⟨_, _, _, _, _, _⟩) (v := .agg #[.int .u64 kind, .int .u64 id, .int .u64 al, .slice nA2 name.length nc2, .int .u8 prio, .int .u8 ord, .int .u64 sg, .int .u64 so, .int .u64 eg, .int .u64 eo, .bool sm, .int .u64 code, .slice rA2 reason.length rc2, .int .u64 nn, .int .u64 ver, .slice vA2 vers.length vc2, .int .i64 1]) rfl (by kernel_rfl) (by kernel_rfl) (by kernel_rfl) (fun _ _ _ h => h) (Or.inl ⟨by rfl, fun w' hS => by go_simp⟩) s2 ?_
      simp only [Act.put, List.setIfInBounds_toArray, List.set_cons_zero, List.set_cons_succ]
      refine wpAnyH_ready (rs := [4, 8]) (by kernel_rfl) (by simp) ?_
      refine AllReadyH.cons rfl (fun K hK => ?_) (AllReadyH.cons rfl (fun K hK => ?_) AllReadyH.nil)
      · have c0 := H2.out.cell (o + 2)
        rw [E2.out] at c0
        have z0 := H2.out.lt
        go_simp
        refine hK.out _ _ s2 (fun s4 => ?_)
        clear hK K c0 z0
        refine wpAnyH_ready (rs := [8]) (by kernel_rfl) (by simp) ?_
        refine AllReadyH.cons rfl (fun K hK => ?_) AllReadyH.nil
        go_simp
        have hb2 : Below u1.heap.size u1 (u1.alloc (.cells #[.int .u64 kind, .int .u64 id, .int .u64 al, .slice nA2 name.length nc2, .int .u8 prio, .int .u8 ord, .int .u64 sg, .int .u64 so, .int .u64 eg, .int .u64 eo, .bool sm, .int .u64 code, .slice rA2 reason.length rc2, .int .u64 nn, .int .u64 ver, .slice vA2 vers.length vc2, .int .i64 1] 37)) := (Below.refl _ _).alloc (Nat.le_refl _) _
        have hk2 : Blk (u1.alloc (.cells #[.int .u64 kind, .int .u64 id, .int .u64 al, .slice nA2 name.length nc2, .int .u8 prio, .int .u8 ord, .int .u64 sg, .int .u64 so, .int .u64 eg, .int .u64 eo, .bool sm, .int .u64 code, .slice rA2 reason.length rc2, .int .u64 nn, .int .u64 ver, .slice vA2 vers.length vc2, .int .i64 1] 37)) u1.heap.size 37 #[.int .u64 kind, .int .u64 id, .int .u64 al, .slice nA2 name.length nc2, .int .u8 prio, .int .u8 ord, .int .u64 sg, .int .u64 so, .int .u64 eg, .int .u64 eo, .bool sm, .int .u64 code, .slice rA2 reason.length rc2, .int .u64 nn, .int .u64 ver, .slice vA2 vers.length vc2, .int .i64 1] := Blk.new _ _ _
        refine hK.out _ _ (s4.below hb2 s4.lt) (fun s5 => ?_)
        clear hK K
        obtain ⟨u2, hu2⟩ : ∃ u, u = u1.alloc (.cells #[.int .u64 kind, .int .u64 id, .int .u64 al, .slice nA2 name.length nc2, .int .u8 prio, .int .u8 ord, .int .u64 sg, .int .u64 so, .int .u64 eg, .int .u64 eo, .bool sm, .int .u64 code, .slice rA2 reason.length rc2, .int .u64 nn, .int .u64 ver, .slice vA2 vers.length vc2, .int .i64 1] 37) := ⟨_, rfl⟩
        obtain ⟨gq, hgq⟩ : ∃ g, g = u1.heap.size := ⟨_, rfl⟩
        rw [← hu2] at hb2 hk2 s5
        rw [← hgq] at hk2
        rw [← hu2, ← hgq]
        have Q3 := Lib.hid hk2
        have H3 := Lib.hid (H2.out.below hb2 H2.out.lt)
        have K3 := Lib.hid (K2.out.below hb2 K2.out.lt)
        have M3 := Lib.hid (OwnV.below M2.out hb2)
        have L3 := Lib.hid (OwnV.below L2.out hb2)
        have P3 := Lib.hid (P2.out.below hb2)
        have B3 := Lib.hid (B2.out.trans (hb2.mono B2.out.size))
        clear hu2 hgq hb2 hk2 s4 H2 K2 M2 L2 P2 B2
        refine wpAnyH_ready (rs := [9]) (by kernel_rfl) (by simp) ?_
        refine AllReadyH.cons rfl (fun K hK => ?_) AllReadyH.nil
        refine step_appV rfl (.tmp 8) (.tmp 12) 45 37 17 176 (.agg #[.int .u64 0, .int .u64 0, .int .u64 0, .slice none 0 0, .int .u8 0, .int .u8 0, .int .u64 0, .int .u64 0, .int .u64 0, .int .u64 0, .bool false, .int .u64 0, .slice none 0 0, .int .u64 0, .int .u64 0, .slice none 0 0, .int .i64 0]) rfl Tryd.underlying45 info_ask3 rfl (by omega) base (n := mn) (m := 1) (xs := xs) (news := [.int .u64 kind, .int .u64 id, .int .u64 al, .slice nA2 name.length nc2, .int .u8 prio, .int .u8 ord, .int .u64 sg, .int .u64 so, .int .u64 eg, .int .u64 eo, .bool sm, .int .u64 code, .slice rA2 reason.length rc2, .int .u64 nn, .int .u64 ver, .slice vA2 vers.length vc2, .int .i64 1]) (d := 1) rfl rfl M3.out (reads_newT Q3.out (Nat.succ_pos _)) (by intro u hu; simp only [List.mem_cons, List.not_mem_nil, or_false] at hu; rcases hu with rfl | rfl | rfl | rfl | rfl | rfl | rfl | rfl | rfl | rfl | rfl | rfl | rfl | rfl | rfl | rfl | rfl <;> rfl) (by unfold maxLen; omega) (by omega) (by have := B3.out.size; omega) ?_
        intro A2 c2 u3 hown hg _ _
        have hng : some g ≠ (Value.slice mA mn mc).ownBlock := fun e => OwnV.other M3.out (by decide) g _ H3.out e.symm
        have hnb : some gb ≠ (Value.slice mA mn mc).ownBlock := fun e => OwnV.other M3.out (by decide) gb _ K3.out e.symm
        have H4 := Lib.hid (H3.out.grown hg hng)
        have K4 := Lib.hid (K3.out.grown hg hnb)
        have L4 := Lib.hid (L3.out.grown hg (fun k cur hb e => OwnV.other M3.out (by decide) k _ hb e))
        have P4 := Lib.hid (P3.out.kept hg (fun e => by
          rcases OwnV.row_is M3.out with ⟨hA, _⟩ | ⟨g', cur, hA, _, hb, _⟩
          · rw [hA] at e; cases e
          · rw [hA] at e
            injection e with e
            exact P3.out.ne_blk hb e.symm))
        have F4 := Lib.hid ((Frm.of_below (S := fun b => b = g ∨ (Value.slice mA mn mc).ownBlock = some b) B3.out).grown hg (fun r hr => .inr (.inr hr)))
        have O4 := Lib.hid hown
        refine hK.out _ _ K4.out (fun s9 => ?_)
        clear hK K s5 hown hg hng hnb M3 L3 P3 B3 H3 K3 Q3
        simp only [List.getElem_toArray, List.getElem_cons_succ, List.getElem_cons_zero, Act.put, List.setIfInBounds_toArray, List.set_cons_succ, List.set_cons_zero]
        refine wpAnyH_take (i := 10) (oi := ⟨_, _, _, _, _, _⟩) (v := .pointer (some ⟨g, o, none⟩)) rfl (by kernel_rfl) (by kernel_rfl) (by kernel_rfl) (fun _ _ _ h => h) (Or.inl ⟨by rfl, fun w' hS => by go_simp⟩) s9 ?_
        simp only [Act.put, List.setIfInBounds_toArray, List.set_cons_zero, List.set_cons_succ]
        refine wpAnyH_take (i := 11) (oi := ⟨_, _, _, _, _, _⟩) (v := .pointer (some ⟨g, o + 2, none⟩)) rfl (by kernel_rfl) (by kernel_rfl) (by kernel_rfl) (fun _ _ _ h => h) (Or.inl ⟨by rfl, fun w' hS => by go_simp⟩) s9 ?_
        simp only [Act.put, List.setIfInBounds_toArray, List.set_cons_zero, List.set_cons_succ]
        refine wpAnyH_ready (rs := [12]) (by kernel_rfl) (by simp) ?_
        refine AllReadyH.cons rfl (fun K hK => ?_) AllReadyH.nil
        have c0 := H4.out.cell (o + 2)
        rw [E2.out] at c0
        have f0 := H4.out.frozen (o + 2)
        have z0 := H4.out.lt
        go_simp
        have hgb2 : gb ≠ g := by omega
        have gs : u3.grownBy (u3.setCell ⟨g, o + 2, none⟩ (.slice A2 (mn + 1) c2)) (some g) := only_set (only_refl u3 (some g)) (p := ⟨g, o + 2, none⟩) rfl _
        have hk9 : Blk (u3.setCell ⟨g, o + 2, none⟩ (.slice A2 (mn + 1) c2)) gb 31 #[.int .u64 kind, .int .u64 id, .int .u64 al, .slice nA name.length nc, .int .u8 prio, .int .u8 ord, .int .u64 sg, .int .u64 so, .int .u64 eg, .int .u64 eo, .bool sm, .int .u64 code, .slice rA reason.length rc, .int .u64 nn, .int .u64 ver, .slice vA vers.length vc] := K4.out.far (p := ⟨g, o + 2, none⟩) hgb2 _
        refine hK.out _ _ hk9 (fun s10 => ?_)
        clear hK K
        refine wpAnyH_done (by kernel_rfl) ?_ _
        go_wp2_with fail
        go_meet
        exact ⟨⟨A2, c2, _, H4.out.set_ (o + 2) _, OwnV.grownT O4.out H4.out (by decide) gs⟩, hk9, OwnV.grownT L4.out H4.out (by decide) gs, P4.out.kept gs (fun e => P4.out.ne_blk H4.out (by injection e with e; exact e.symm)), F4.out.set (p := ⟨g, o + 2, none⟩) (.inr (.inl rfl)) _⟩
      · go_simp
        have hb2 : Below u1.heap.size u1 (u1.alloc (.cells #[.int .u64 kind, .int .u64 id, .int .u64 al, .slice nA2 name.length nc2, .int .u8 prio, .int .u8 ord, .int .u64 sg, .int .u64 so, .int .u64 eg, .int .u64 eo, .bool sm, .int .u64 code, .slice rA2 reason.length rc2, .int .u64 nn, .int .u64 ver, .slice vA2 vers.length vc2, .int .i64 1] 37)) := (Below.refl _ _).alloc (Nat.le_refl _) _
        have hk2 : Blk (u1.alloc (.cells #[.int .u64 kind, .int .u64 id, .int .u64 al, .slice nA2 name.length nc2, .int .u8 prio, .int .u8 ord, .int .u64 sg, .int .u64 so, .int .u64 eg, .int .u64 eo, .bool sm, .int .u64 code, .slice rA2 reason.length rc2, .int .u64 nn, .int .u64 ver, .slice vA2 vers.length vc2, .int .i64 1] 37)) u1.heap.size 37 #[.int .u64 kind, .int .u64 id, .int .u64 al, .slice nA2 name.length nc2, .int .u8 prio, .int .u8 ord, .int .u64 sg, .int .u64 so, .int .u64 eg, .int .u64 eo, .bool sm, .int .u64 code, .slice rA2 reason.length rc2, .int .u64 nn, .int .u64 ver, .slice vA2 vers.length vc2, .int .i64 1] := Blk.new _ _ _
        refine hK.out _ _ (s2.below hb2 s2.lt) (fun s4 => ?_)
        clear hK K
        obtain ⟨u2, hu2⟩ : ∃ u, u = u1.alloc (.cells #[.int .u64 kind, .int .u64 id, .int .u64 al, .slice nA2 name.length nc2, .int .u8 prio, .int .u8 ord, .int .u64 sg, .int .u64 so, .int .u64 eg, .int .u64 eo, .bool sm, .int .u64 code, .slice rA2 reason.length rc2, .int .u64 nn, .int .u64 ver, .slice vA2 vers.length vc2, .int .i64 1] 37) := ⟨_, rfl⟩
        obtain ⟨gq, hgq⟩ : ∃ g, g = u1.heap.size := ⟨_, rfl⟩
        rw [← hu2] at hb2 hk2 s4
        rw [← hgq] at hk2
        rw [← hu2, ← hgq]
        have Q3 := Lib.hid hk2
        have H3 := Lib.hid (H2.out.below hb2 H2.out.lt)
        have K3 := Lib.hid (K2.out.below hb2 K2.out.lt)
        have M3 := Lib.hid (OwnV.below M2.out hb2)
        have L3 := Lib.hid (OwnV.below L2.out hb2)
        have P3 := Lib.hid (P2.out.below hb2)
        have B3 := Lib.hid (B2.out.trans (hb2.mono B2.out.size))
        clear hu2 hgq hb2 hk2 s2 H2 K2 M2 L2 P2 B2
        refine wpAnyH_ready (rs := [4]) (by kernel_rfl) (by simp) ?_
        refine AllReadyH.cons rfl (fun K hK => ?_) AllReadyH.nil
        have c0 := H3.out.cell (o + 2)
        rw [E2.out] at c0
        have z0 := H3.out.lt
        go_simp
        refine hK.out _ _ s4 (fun s5 => ?_)
        clear hK K c0 z0
        refine wpAnyH_ready (rs := [9]) (by kernel_rfl) (by simp) ?_
        refine AllReadyH.cons rfl (fun K hK => ?_) AllReadyH.nil
        refine step_appV rfl (.tmp 8) (.tmp 12) 45 37 17 176 (.agg #[.int .u64 0, .int .u64 0, .int .u64 0, .slice none 0 0, .int .u8 0, .int .u8 0, .int .u64 0, .int .u64 0, .int .u64 0, .int .u64 0, .bool false, .int .u64 0, .slice none 0 0, .int .u64 0, .int .u64 0, .slice none 0 0, .int .i64 0]) rfl Tryd.underlying45 info_ask3 rfl (by omega) base (n := mn) (m := 1) (xs := xs) (news := [.int .u64 kind, .int .u64 id, .int .u64 al, .slice nA2 name.length nc2, .int .u8 prio, .int .u8 ord, .int .u64 sg, .int .u64 so, .int .u64 eg, .int .u64 eo, .bool sm, .int .u64 code, .slice rA2 reason.length rc2, .int .u64 nn, .int .u64 ver, .slice vA2 vers.length vc2, .int .i64 1]) (d := 1) rfl rfl M3.out (reads_newT Q3.out (Nat.succ_pos _)) (by intro u hu; simp only [List.mem_cons, List.not_mem_nil, or_false] at hu; rcases hu with rfl | rfl | rfl | rfl | rfl | rfl | rfl | rfl | rfl | rfl | rfl | rfl | rfl | rfl | rfl | rfl | rfl <;> rfl) (by unfold maxLen; omega) (by omega) (by have := B3.out.size; omega) ?_
        intro A2 c2 u3 hown hg _ _
        have hng : some g ≠ (Value.slice mA mn mc).ownBlock := fun e => OwnV.other M3.out (by decide) g _ H3.out e.symm
        have hnb : some gb ≠ (Value.slice mA mn mc).ownBlock := fun e => OwnV.other M3.out (by decide) gb _ K3.out e.symm
        have H4 := Lib.hid (H3.out.grown hg hng)
        have K4 := Lib.hid (K3.out.grown hg hnb)
        have L4 := Lib.hid (L3.out.grown hg (fun k cur hb e => OwnV.other M3.out (by decide) k _ hb e))
        have P4 := Lib.hid (P3.out.kept hg (fun e => by
          rcases OwnV.row_is M3.out with ⟨hA, _⟩ | ⟨g', cur, hA, _, hb, _⟩
          · rw [hA] at e; cases e
          · rw [hA] at e
            injection e with e
            exact P3.out.ne_blk hb e.symm))
        have F4 := Lib.hid ((Frm.of_below (S := fun b => b = g ∨ (Value.slice mA mn mc).ownBlock = some b) B3.out).grown hg (fun r hr => .inr (.inr hr)))
        have O4 := Lib.hid hown
        refine hK.out _ _ K4.out (fun s9 => ?_)
        clear hK K s5 hown hg hng hnb M3 L3 P3 B3 H3 K3 Q3
        simp only [List.getElem_toArray, List.getElem_cons_succ, List.getElem_cons_zero, Act.put, List.setIfInBounds_toArray, List.set_cons_succ, List.set_cons_zero]
        refine wpAnyH_take (i := 10) (oi := ⟨_, _, _, _, _, _⟩) (v := .pointer (some ⟨g, o, none⟩)) rfl (by kernel_rfl) (by kernel_rfl) (by kernel_rfl) (fun _ _ _ h => h) (Or.inl ⟨by rfl, fun w' hS => by go_simp⟩) s9 ?_
        simp only [Act.put, List.setIfInBounds_toArray, List.set_cons_zero, List.set_cons_succ]
        refine wpAnyH_take (i := 11) (oi := ⟨_, _, _, _, _, _⟩) (v := .pointer (some ⟨g, o + 2, none⟩)) rfl (by kernel_rfl) (by kernel_rfl) (by kernel_rfl) (fun _ _ _ h => h) (Or.inl ⟨by rfl, fun w' hS => by go_simp⟩) s9 ?_
        simp only [Act.put, List.setIfInBounds_toArray, List.set_cons_zero, List.set_cons_succ]
        refine wpAnyH_ready (rs := [12]) (by kernel_rfl) (by simp) ?_
        refine AllReadyH.cons rfl (fun K hK => ?_) AllReadyH.nil
        have c0 := H4.out.cell (o + 2)
        rw [E2.out] at c0
        have f0 := H4.out.frozen (o + 2)
        have z0 := H4.out.lt
        go_simp
        have hgb2 : gb ≠ g := by omega
        have gs : u3.grownBy (u3.setCell ⟨g, o + 2, none⟩ (.slice A2 (mn + 1) c2)) (some g) := only_set (only_refl u3 (some g)) (p := ⟨g, o + 2, none⟩) rfl _
        have hk9 : Blk (u3.setCell ⟨g, o + 2, none⟩ (.slice A2 (mn + 1) c2)) gb 31 #[.int .u64 kind, .int .u64 id, .int .u64 al, .slice nA name.length nc, .int .u8 prio, .int .u8 ord, .int .u64 sg, .int .u64 so, .int .u64 eg, .int .u64 eo, .bool sm, .int .u64 code, .slice rA reason.length rc, .int .u64 nn, .int .u64 ver, .slice vA vers.length vc] := K4.out.far (p := ⟨g, o + 2, none⟩) hgb2 _
        refine hK.out _ _ hk9 (fun s10 => ?_)
        clear hK K
        refine wpAnyH_done (by kernel_rfl) ?_ _
        go_wp2_with fail
        go_meet
        exact ⟨⟨A2, c2, _, H4.out.set_ (o + 2) _, OwnV.grownT O4.out H4.out (by decide) gs⟩, hk9, OwnV.grownT L4.out H4.out (by decide) gs, P4.out.kept gs (fun e => P4.out.ne_blk H4.out (by injection e with e; exact e.symm)), F4.out.set (p := ⟨g, o + 2, none⟩) (.inr (.inl rfl)) _⟩
  case rest =>
    obtain ⟨⟨A2, c2, zs, kb, oz⟩, bx, lv, mp, fr⟩ := hcut
    obtain ⟨cs1, hcs1⟩ : ∃ c, c = cs.setIfInBounds (o + 2) (.slice A2 (mn + 1) c2) := ⟨_, rfl⟩
    have E3 := Lib.hid (show cs1[o + 3]? = some (.slice lA ln lc) by rw [hcs1, Array.getElem?_setIfInBounds_ne (by omega)]; exact E3.out)
    have E4 := Lib.hid (show cs1[o + 4]? = some (.map (some B)) by rw [hcs1, Array.getElem?_setIfInBounds_ne (by omega)]; exact E4.out)
    rw [← hcs1] at kb
    have H0 := Lib.hid kb
    have K0 := Lib.hid bx
    have M0 := Lib.hid oz
    have L0 := Lib.hid lv
    have P0 := Lib.hid mp
    have F0 := Lib.hid (fr.mono (T := fun b => b = g ∨ (Value.slice mA mn mc).ownBlock = some b ∨ (Value.slice lA ln lc).ownBlock = some b) (fun b _ h => by rcases h with h | h; exact .inl h; exact .inr (.inl h)))
    have HCS := Lib.hid hcs1
    clear hcs1 kb oz bx lv mp fr CL B0
    go_upto_region 2 with (fail)
    go_cut [] (fun wx => AddB w wx base g o gb cs1 #[.int .u64 kind, .int .u64 id, .int .u64 al, .slice nA name.length nc, .int .u8 prio, .int .u8 ord, .int .u64 sg, .int .u64 so, .int .u64 eg, .int .u64 eo, .bool sm, .int .u64 code, .slice rA reason.length rc, .int .u64 nn, .int .u64 ver, .slice vA vers.length vc] A2 mn c2 mA mc lA ln lc ys id B n L zs)
    case first =>
      obtain ⟨u0, hu0⟩ : ∃ u, u = wc.drew := ⟨_, rfl⟩
      have H1 := Lib.hid (show Blk u0 g 66 cs1 by rw [hu0]; exact H0.out.drew)
      have K1 := Lib.hid (show Blk u0 gb 31 #[.int .u64 kind, .int .u64 id, .int .u64 al, .slice nA name.length nc, .int .u8 prio, .int .u8 ord, .int .u64 sg, .int .u64 so, .int .u64 eg, .int .u64 eo, .bool sm, .int .u64 code, .slice rA reason.length rc, .int .u64 nn, .int .u64 ver, .slice vA vers.length vc] by rw [hu0]; exact K0.out.drew)
      have F1 := Lib.hid (show Frm w u0 (fun b => b = g ∨ (Value.slice mA mn mc).ownBlock = some b ∨ (Value.slice lA ln lc).ownBlock = some b) by rw [hu0]; exact F0.out.drew)
      have M1 := Lib.hid (show OwnV u0 base 37 17 A2 c2 (mn + 1) zs by rw [hu0]; exact OwnV.below M0.out (Below.refl _ _).drew)
      have L1 := Lib.hid (show OwnV u0 base 22 1 lA lc ln ys by rw [hu0]; exact OwnV.below L0.out (Below.refl _ _).drew)
      have P1 := Lib.hid (show MapE u0 B n L by rw [hu0]; exact P0.out.below (Below.refl _ _).drew)
      refine wp_region_held_drew (S := fun w' => Blk w' gb 31 #[.int .u64 kind, .int .u64 id, .int .u64 al, .slice nA name.length nc, .int .u8 prio, .int .u8 ord, .int .u64 sg, .int .u64 so, .int .u64 eg, .int .u64 eo, .bool sm, .int .u64 code, .slice rA reason.length rc, .int .u64 nn, .int .u64 ver, .slice vA vers.length vc]) (by kernel_rfl) K0.out.drew (fun s0 => ?_)
      rw [← hu0] at s0 ⊢
      clear hu0
      refine wpAnyH_take (i := 0) (oi := ⟨_, _, _, _, _, _⟩) (v := .pointer (some ⟨g, o, none⟩)) rfl (by kernel_rfl) (by kernel_rfl) (by kernel_rfl) (fun _ _ _ h => h) (Or.inl ⟨by rfl, fun w' hS => by go_simp⟩) s0 ?_
      simp only [Act.put, List.setIfInBounds_toArray, List.set_cons_zero, List.set_cons_succ]
      refine wpAnyH_take (i := 1) (oi := ⟨_, _, _, _, _, _⟩) (v := .pointer (some ⟨g, o, none⟩)) rfl (by kernel_rfl) (by kernel_rfl) (by kernel_rfl) (fun _ _ _ h => h) (Or.inl ⟨by rfl, fun w' hS => by go_simp⟩) s0 ?_
      simp only [Act.put, List.setIfInBounds_toArray, List.set_cons_zero, List.set_cons_succ]
      refine wpAnyH_take (i := 2) (oi := ⟨_, _, _, _, _, _⟩) (v := .pointer (some ⟨g, o, none⟩)) rfl (by kernel_rfl) (by kernel_rfl) (by kernel_rfl) (fun _ _ _ h => h) (Or.inl ⟨by rfl, fun w' hS => by go_simp⟩) s0 ?_
      simp only [Act.put, List.setIfInBounds_toArray, List.set_cons_zero, List.set_cons_succ]
      refine wpAnyH_take (i := 3) (oi := ⟨_, _, _, _, _, _⟩) (v := .pointer (some ⟨g, o + 3, none⟩)) rfl (by kernel_rfl) (by kernel_rfl) (by kernel_rfl) (fun _ _ _ h => h) (Or.inl ⟨by rfl, fun w' hS => by go_simp⟩) s0 ?_
      simp only [Act.put, List.setIfInBounds_toArray, List.set_cons_zero, List.set_cons_succ]
      refine wpAnyH_take (i := 5) (oi := ⟨_, _, _, _, _, _⟩) (v := .pointer (some ⟨gb, 1, none⟩)) rfl (by kernel_rfl) (by kernel_rfl) (by kernel_rfl) (fun _ _ _ h => h) (Or.inl ⟨by rfl, fun w' hS => by go_simp⟩) s0 ?_
      simp only [Act.put, List.setIfInBounds_toArray, List.set_cons_zero, List.set_cons_succ]
      refine wpAnyH_take (i := 6) (oi := ⟨_, _, _, _, _, _⟩) (v := .int .u64 id) rfl (by kernel_rfl) (by kernel_rfl) (by kernel_rfl) (fun _ _ _ h => h) (Or.inl ⟨by rfl, fun w' hS => by have c1 := hS.cell 1; simp only [List.getElem?_toArray, List.getElem?_cons_zero, List.getElem?_cons_succ] at c1; have z0 := hS.lt; go_simp⟩) s0 ?_
      simp only [Act.put, List.setIfInBounds_toArray, List.set_cons_zero, List.set_cons_succ]
      refine wpAnyH_ready (rs := [4, 7]) (by kernel_rfl) (by simp) ?_
      refine AllReadyH.cons rfl (fun K hK => ?_) (AllReadyH.cons rfl (fun K hK => ?_) AllReadyH.nil)
      · have c0 := H1.out.cell (o + 3)
        rw [E3.out] at c0
        have z0 := H1.out.lt
        go_simp
        refine hK.out _ _ s0 (fun s1 => ?_)
        clear hK K c0 z0
        refine wpAnyH_ready (rs := [7]) (by kernel_rfl) (by simp) ?_
        refine AllReadyH.cons rfl (fun K hK => ?_) AllReadyH.nil
        go_simp
        have hb2 : Below u0.heap.size u0 (u0.alloc (.cells #[.int .u64 id] 22)) := (Below.refl _ _).alloc (Nat.le_refl _) _
        have hk2 : Blk (u0.alloc (.cells #[.int .u64 id] 22)) u0.heap.size 22 #[.int .u64 id] := Blk.new _ _ _
        refine hK.out _ _ (s1.below hb2 s1.lt) (fun s2 => ?_)
        clear hK K
        obtain ⟨u2, hu2⟩ : ∃ u, u = u0.alloc (.cells #[.int .u64 id] 22) := ⟨_, rfl⟩
        obtain ⟨gq, hgq⟩ : ∃ g, g = u0.heap.size := ⟨_, rfl⟩
        rw [← hu2] at hb2 hk2 s2
        rw [← hgq] at hk2
        rw [← hu2, ← hgq]
        have Q3 := Lib.hid hk2
        have H3 := Lib.hid (H1.out.below hb2 H1.out.lt)
        have K3 := Lib.hid (K1.out.below hb2 K1.out.lt)
        have M3 := Lib.hid (OwnV.below M1.out hb2)
        have L3 := Lib.hid (OwnV.below L1.out hb2)
        have P3 := Lib.hid (P1.out.below hb2)
        have F3 := Lib.hid (F1.out.then_below hb2)
        clear hu2 hgq hb2 hk2 s1 H1 K1 M1 L1 P1 F1
        refine wpAnyH_ready (rs := [8]) (by kernel_rfl) (by simp) ?_
        refine AllReadyH.cons rfl (fun K hK => ?_) AllReadyH.nil
        refine step_appV rfl (.tmp 20) (.tmp 23) 26 22 1 8 (.int .u64 0) rfl Tryd.underlying26 info_u64T rfl (by omega) base (n := ln) (m := 1) (xs := ys) (news := [.int .u64 id]) (d := 1) rfl rfl L3.out (reads_newT Q3.out (Nat.succ_pos _)) (by intro u hu; simp only [List.mem_cons, List.not_mem_nil, or_false] at hu; rw [hu]; rfl) (by unfold maxLen; omega) (by omega) (by have := F3.out.size; omega) ?_
        intro A3 c3 u3 hown hg _ _
        have hng : some g ≠ (Value.slice lA ln lc).ownBlock := fun e => OwnV.other L3.out (by decide) g _ H3.out e.symm
        have hnb : some gb ≠ (Value.slice lA ln lc).ownBlock := fun e => OwnV.other L3.out (by decide) gb _ K3.out e.symm
        have H4 := Lib.hid (H3.out.grown hg hng)
        have K4 := Lib.hid (K3.out.grown hg hnb)
        have M4 := Lib.hid (M3.out.grown hg (fun k cur hb e => OwnV.other L3.out (by decide) k _ hb e))
        have P4 := Lib.hid (P3.out.kept hg (fun e => by
          rcases OwnV.row_is L3.out with ⟨hA, _⟩ | ⟨g', cur, hA, _, hb, _⟩
          · rw [hA] at e; cases e
          · rw [hA] at e
            injection e with e
            exact P3.out.ne_blk hb e.symm))
        have F4 := Lib.hid (F3.out.grown hg (fun r hr => .inr (.inr (.inr hr))))
        have O4 := Lib.hid hown
        refine hK.out _ _ K4.out (fun s9 => ?_)
        clear hK K s2 hown hg hng hnb M3 L3 P3 F3 H3 K3 Q3
        simp only [List.getElem_toArray, List.getElem_cons_succ, List.getElem_cons_zero, Act.put, List.setIfInBounds_toArray, List.set_cons_succ, List.set_cons_zero]
        refine wpAnyH_take (i := 9) (oi := ⟨_, _, _, _, _, _⟩) (v := .pointer (some ⟨g, o, none⟩)) rfl (by kernel_rfl) (by kernel_rfl) (by kernel_rfl) (fun _ _ _ h => h) (Or.inl ⟨by rfl, fun w' hS => by go_simp⟩) s9 ?_
        simp only [Act.put, List.setIfInBounds_toArray, List.set_cons_zero, List.set_cons_succ]
        refine wpAnyH_take (i := 10) (oi := ⟨_, _, _, _, _, _⟩) (v := .pointer (some ⟨g, o + 3, none⟩)) rfl (by kernel_rfl) (by kernel_rfl) (by kernel_rfl) (fun _ _ _ h => h) (Or.inl ⟨by rfl, fun w' hS => by go_simp⟩) s9 ?_
        simp only [Act.put, List.setIfInBounds_toArray, List.set_cons_zero, List.set_cons_succ]
        refine wpAnyH_ready (rs := [11]) (by kernel_rfl) (by simp) ?_
        refine AllReadyH.cons rfl (fun K hK => ?_) AllReadyH.nil
        have c0 := H4.out.cell (o + 3)
        rw [E3.out] at c0
        have f0 := H4.out.frozen (o + 3)
        have z0 := H4.out.lt
        go_simp
        have hgb2 : gb ≠ g := by omega
        have gs : u3.grownBy (u3.setCell ⟨g, o + 3, none⟩ (.slice A3 (ln + 1) c3)) (some g) := only_set (only_refl u3 (some g)) (p := ⟨g, o + 3, none⟩) rfl _
        have hk9 : Blk (u3.setCell ⟨g, o + 3, none⟩ (.slice A3 (ln + 1) c3)) gb 31 #[.int .u64 kind, .int .u64 id, .int .u64 al, .slice nA name.length nc, .int .u8 prio, .int .u8 ord, .int .u64 sg, .int .u64 so, .int .u64 eg, .int .u64 eo, .bool sm, .int .u64 code, .slice rA reason.length rc, .int .u64 nn, .int .u64 ver, .slice vA vers.length vc] := K4.out.far (p := ⟨g, o + 3, none⟩) hgb2 _
        refine hK.out _ _ hk9 (fun s10 => ?_)
        clear hK K
        refine wpAnyH_done (by kernel_rfl) ?_ _
        go_wp2_with fail
        go_meet
        exact ⟨⟨A3, c3, H4.out.set_ (o + 3) _, OwnV.grownT O4.out H4.out (by decide) gs⟩, OwnV.grownT M4.out H4.out (by decide) gs, hk9, P4.out.kept gs (fun e => P4.out.ne_blk H4.out (by injection e with e; exact e.symm)), F4.out.set (p := ⟨g, o + 3, none⟩) (.inr (.inl rfl)) _⟩
      · go_simp
        have hb2 : Below u0.heap.size u0 (u0.alloc (.cells #[.int .u64 id] 22)) := (Below.refl _ _).alloc (Nat.le_refl _) _
        have hk2 : Blk (u0.alloc (.cells #[.int .u64 id] 22)) u0.heap.size 22 #[.int .u64 id] := Blk.new _ _ _
        refine hK.out _ _ (s0.below hb2 s0.lt) (fun s1 => ?_)
        clear hK K
        obtain ⟨u2, hu2⟩ : ∃ u, u = u0.alloc (.cells #[.int .u64 id] 22) := ⟨_, rfl⟩
        obtain ⟨gq, hgq⟩ : ∃ g, g = u0.heap.size := ⟨_, rfl⟩
        rw [← hu2] at hb2 hk2 s1
        rw [← hgq] at hk2
        rw [← hu2, ← hgq]
        have Q3 := Lib.hid hk2
        have H3 := Lib.hid (H1.out.below hb2 H1.out.lt)
        have K3 := Lib.hid (K1.out.below hb2 K1.out.lt)
        have M3 := Lib.hid (OwnV.below M1.out hb2)
        have L3 := Lib.hid (OwnV.below L1.out hb2)
        have P3 := Lib.hid (P1.out.below hb2)
        have F3 := Lib.hid (F1.out.then_below hb2)
        clear hu2 hgq hb2 hk2 s0 H1 K1 M1 L1 P1 F1
        refine wpAnyH_ready (rs := [4]) (by kernel_rfl) (by simp) ?_
        refine AllReadyH.cons rfl (fun K hK => ?_) AllReadyH.nil
        have c0 := H3.out.cell (o + 3)
        rw [E3.out] at c0
        have z0 := H3.out.lt
        go_simp
        refine hK.out _ _ s1 (fun s2 => ?_)
        clear hK K c0 z0
        refine wpAnyH_ready (rs := [8]) (by kernel_rfl) (by simp) ?_
        refine AllReadyH.cons rfl (fun K hK => ?_) AllReadyH.nil
        refine step_appV rfl (.tmp 20) (.tmp 23) 26 22 1 8 (.int .u64 0) rfl Tryd.underlying26 info_u64T rfl (by omega) base (n := ln) (m := 1) (xs := ys) (news := [.int .u64 id]) (d := 1) rfl rfl L3.out (reads_newT Q3.out (Nat.succ_pos _)) (by intro u hu; simp only [List.mem_cons, List.not_mem_nil, or_false] at hu; rw [hu]; rfl) (by unfold maxLen; omega) (by omega) (by have := F3.out.size; omega) ?_
        intro A3 c3 u3 hown hg _ _
        have hng : some g ≠ (Value.slice lA ln lc).ownBlock := fun e => OwnV.other L3.out (by decide) g _ H3.out e.symm
        have hnb : some gb ≠ (Value.slice lA ln lc).ownBlock := fun e => OwnV.other L3.out (by decide) gb _ K3.out e.symm
        have H4 := Lib.hid (H3.out.grown hg hng)
        have K4 := Lib.hid (K3.out.grown hg hnb)
        have M4 := Lib.hid (M3.out.grown hg (fun k cur hb e => OwnV.other L3.out (by decide) k _ hb e))
        have P4 := Lib.hid (P3.out.kept hg (fun e => by
          rcases OwnV.row_is L3.out with ⟨hA, _⟩ | ⟨g', cur, hA, _, hb, _⟩
          · rw [hA] at e; cases e
          · rw [hA] at e
            injection e with e
            exact P3.out.ne_blk hb e.symm))
        have F4 := Lib.hid (F3.out.grown hg (fun r hr => .inr (.inr (.inr hr))))
        have O4 := Lib.hid hown
        refine hK.out _ _ K4.out (fun s9 => ?_)
        clear hK K s2 hown hg hng hnb M3 L3 P3 F3 H3 K3 Q3
        simp only [List.getElem_toArray, List.getElem_cons_succ, List.getElem_cons_zero, Act.put, List.setIfInBounds_toArray, List.set_cons_succ, List.set_cons_zero]
        refine wpAnyH_take (i := 9) (oi := ⟨_, _, _, _, _, _⟩) (v := .pointer (some ⟨g, o, none⟩)) rfl (by kernel_rfl) (by kernel_rfl) (by kernel_rfl) (fun _ _ _ h => h) (Or.inl ⟨by rfl, fun w' hS => by go_simp⟩) s9 ?_
        simp only [Act.put, List.setIfInBounds_toArray, List.set_cons_zero, List.set_cons_succ]
        refine wpAnyH_take (i := 10) (oi := ⟨_, _, _, _, _, _⟩) (v := .pointer (some ⟨g, o + 3, none⟩)) rfl (by kernel_rfl) (by kernel_rfl) (by kernel_rfl) (fun _ _ _ h => h) (Or.inl ⟨by rfl, fun w' hS => by go_simp⟩) s9 ?_
        simp only [Act.put, List.setIfInBounds_toArray, List.set_cons_zero, List.set_cons_succ]
        refine wpAnyH_ready (rs := [11]) (by kernel_rfl) (by simp) ?_
        refine AllReadyH.cons rfl (fun K hK => ?_) AllReadyH.nil
        have c0 := H4.out.cell (o + 3)
        rw [E3.out] at c0
        have f0 := H4.out.frozen (o + 3)
        have z0 := H4.out.lt
        go_simp
        have hgb2 : gb ≠ g := by omega
        have gs : u3.grownBy (u3.setCell ⟨g, o + 3, none⟩ (.slice A3 (ln + 1) c3)) (some g) := only_set (only_refl u3 (some g)) (p := ⟨g, o + 3, none⟩) rfl _
        have hk9 : Blk (u3.setCell ⟨g, o + 3, none⟩ (.slice A3 (ln + 1) c3)) gb 31 #[.int .u64 kind, .int .u64 id, .int .u64 al, .slice nA name.length nc, .int .u8 prio, .int .u8 ord, .int .u64 sg, .int .u64 so, .int .u64 eg, .int .u64 eo, .bool sm, .int .u64 code, .slice rA reason.length rc, .int .u64 nn, .int .u64 ver, .slice vA vers.length vc] := K4.out.far (p := ⟨g, o + 3, none⟩) hgb2 _
        refine hK.out _ _ hk9 (fun s10 => ?_)
        clear hK K
        refine wpAnyH_done (by kernel_rfl) ?_ _
        go_wp2_with fail
        go_meet
        exact ⟨⟨A3, c3, H4.out.set_ (o + 3) _, OwnV.grownT O4.out H4.out (by decide) gs⟩, OwnV.grownT M4.out H4.out (by decide) gs, hk9, P4.out.kept gs (fun e => P4.out.ne_blk H4.out (by injection e with e; exact e.symm)), F4.out.set (p := ⟨g, o + 3, none⟩) (.inr (.inl rfl)) _⟩
    case rest =>
      obtain ⟨⟨A3, c3, kb, ol⟩, ox, bx, mp, fr⟩ := hcut
      obtain ⟨cs2, hcs2⟩ : ∃ c, c = cs1.setIfInBounds (o + 3) (.slice A3 (ln + 1) c3) := ⟨_, rfl⟩
      have E5 := Lib.hid (show cs2[o + 4]? = some (.map (some B)) by rw [hcs2, Array.getElem?_setIfInBounds_ne (by omega)]; exact E4.out)
      have HC2 := Lib.hid (show cs2 = (cs.setIfInBounds (o + 2) (.slice A2 (mn + 1) c2)).setIfInBounds (o + 3) (.slice A3 (ln + 1) c3) by rw [hcs2, HCS.out])
      rw [← hcs2] at kb
      have H5 := Lib.hid kb
      have K5 := Lib.hid bx
      have M5 := Lib.hid ox
      have L5 := Lib.hid ol
      have P5 := Lib.hid mp
      have F5 := Lib.hid (fr.mono (T := fun b => b = g ∨ b = B ∨ (Value.slice mA mn mc).ownBlock = some b ∨ (Value.slice lA ln lc).ownBlock = some b) (fun b _ h => by rcases h with h | h | h; exact .inl h; exact .inr (.inr (.inl h)); exact .inr (.inr (.inr h))))
      have k0 := bx.cell 0
      simp only [List.getElem?_toArray, List.getElem?_cons_zero, List.getElem?_cons_succ] at k0
      have z0 := bx.lt
      clear hcs2 kb ol ox bx mp fr H0 K0 M0 L0 P0 F0
      by_cases hk : kind = 3
      · have hk2 : (kind == 3) = true := by simpa using hk
        clear hk
        go_upto_region 4 with (fail)
        have HR : Blk wc.drew gb 31 #[.int .u64 kind, .int .u64 id, .int .u64 al, .slice nA name.length nc, .int .u8 prio, .int .u8 ord, .int .u64 sg, .int .u64 so, .int .u64 eg, .int .u64 eo, .bool sm, .int .u64 code, .slice rA reason.length rc, .int .u64 nn, .int .u64 ver, .slice vA vers.length vc] ∧ Blk wc.drew g 66 cs2 := ⟨K5.out.drew, H5.out.drew⟩
        refine wp_region_held_drew (S := fun w' => Blk w' gb 31 #[.int .u64 kind, .int .u64 id, .int .u64 al, .slice nA name.length nc, .int .u8 prio, .int .u8 ord, .int .u64 sg, .int .u64 so, .int .u64 eg, .int .u64 eo, .bool sm, .int .u64 code, .slice rA reason.length rc, .int .u64 nn, .int .u64 ver, .slice vA vers.length vc] ∧ Blk w' g 66 cs2) (by kernel_rfl) HR (fun s0 => ?_)
        refine wpAnyH_take (i := 0) (oi := ⟨_, _, _, _, _, _⟩) (v := .pointer (some ⟨g, o, none⟩)) rfl (by kernel_rfl) (by kernel_rfl) (by kernel_rfl) (fun _ _ _ h => h) (Or.inl ⟨by rfl, fun w' hS => by go_simp⟩) s0 ?_
        simp only [Act.put, List.setIfInBounds_toArray, List.set_cons_zero, List.set_cons_succ]
        refine wpAnyH_take (i := 1) (oi := ⟨_, _, _, _, _, _⟩) (v := .pointer (some ⟨g, o, none⟩)) rfl (by kernel_rfl) (by kernel_rfl) (by kernel_rfl) (fun _ _ _ h => h) (Or.inl ⟨by rfl, fun w' hS => by go_simp⟩) s0 ?_
        simp only [Act.put, List.setIfInBounds_toArray, List.set_cons_zero, List.set_cons_succ]
        refine wpAnyH_take (i := 2) (oi := ⟨_, _, _, _, _, _⟩) (v := .pointer (some ⟨g, o + 4, none⟩)) rfl (by kernel_rfl) (by kernel_rfl) (by kernel_rfl) (fun _ _ _ h => h) (Or.inl ⟨by rfl, fun w' hS => by go_simp⟩) s0 ?_
        simp only [Act.put, List.setIfInBounds_toArray, List.set_cons_zero, List.set_cons_succ]
        refine wpAnyH_take (i := 3) (oi := ⟨_, _, _, _, _, _⟩) (v := .map (some B)) rfl (by kernel_rfl) (by kernel_rfl) (by kernel_rfl) (fun _ _ _ h => h) (Or.inl ⟨by rfl, fun w' hS => by have c0 := hS.2.cell (o + 4); rw [E5.out] at c0; have z0 := hS.2.lt; go_simp⟩) s0 ?_
        simp only [Act.put, List.setIfInBounds_toArray, List.set_cons_zero, List.set_cons_succ]
        refine wpAnyH_take (i := 4) (oi := ⟨_, _, _, _, _, _⟩) (v := .pointer (some ⟨gb, 2, none⟩)) rfl (by kernel_rfl) (by kernel_rfl) (by kernel_rfl) (fun _ _ _ h => h) (Or.inl ⟨by rfl, fun w' hS => by go_simp⟩) s0 ?_
        simp only [Act.put, List.setIfInBounds_toArray, List.set_cons_zero, List.set_cons_succ]
        refine wpAnyH_take (i := 5) (oi := ⟨_, _, _, _, _, _⟩) (v := .int .u64 al) rfl (by kernel_rfl) (by kernel_rfl) (by kernel_rfl) (fun _ _ _ h => h) (Or.inl ⟨by rfl, fun w' hS => by have c2 := hS.1.cell 2; simp only [List.getElem?_toArray, List.getElem?_cons_zero, List.getElem?_cons_succ] at c2; have z0 := hS.1.lt; go_simp⟩) s0 ?_
        simp only [Act.put, List.setIfInBounds_toArray, List.set_cons_zero, List.set_cons_succ]
        refine wpAnyH_take (i := 6) (oi := ⟨_, _, _, _, _, _⟩) (v := .agg #[]) rfl (by kernel_rfl) (by kernel_rfl) (by kernel_rfl) (fun _ _ _ h => h) (Or.inl ⟨by rfl, fun w' hS => by go_simp⟩) s0 ?_
        simp only [Act.put, List.setIfInBounds_toArray, List.set_cons_zero, List.set_cons_succ]
        refine wpAnyH_ready (rs := [7]) (by kernel_rfl) (by simp) ?_
        refine AllReadyH.cons rfl (fun K hK => ?_) AllReadyH.nil
        obtain ⟨w9, hrun, hM, hG⟩ := (P5.out.below (Below.refl _ _).drew).store (by unfold maxLen; omega) ha
        go_simp
        have hgB : some g ≠ some B := fun e => MapE.ne_blk P5.out H5.out (by injection e)
        have hbB : some gb ≠ some B := fun e => MapE.ne_blk P5.out K5.out (by injection e)
        have hk9 := s0.1.grown hG hbB
        have hg9 := s0.2.grown hG hgB
        refine hK.out _ _ ⟨hk9, hg9⟩ (fun s10 => ?_)
        clear hK K
        refine wpAnyH_done (by kernel_rfl) ?_ _
        have nM : ∀ k cur, Blk wc.drew k 37 cur → some B ≠ some k := fun k cur hb e => (MapE.ne_blk (P5.out.below (Below.refl _ _).drew) hb) (by injection e with e; exact e.symm)
        have nL : ∀ k cur, Blk wc.drew k 22 cur → some B ≠ some k := fun k cur hb e => (MapE.ne_blk (P5.out.below (Below.refl _ _).drew) hb) (by injection e with e; exact e.symm)
        have rM := (OwnV.below M5.out (Below.refl _ _).drew).grown hG nM
        have rL := (OwnV.below L5.out (Below.refl _ _).drew).grown hG nL
        have rF := F5.out.drew.grown hG (fun r hr => .inr (.inr (.inl (by injection hr with hr; exact hr.symm))))
        rw [HC2.out] at hg9
        exact bodyPost_end (v := .tuple #[]) (results_none (by rfl) _ _ _) (by rfl) ⟨rfl, A2, c2, A3, c3, _, _, _, hg9, rM, rL, hM, Nat.le_refl _, rF⟩
      · have hk2 : (kind == 3) = false := by simpa using hk
        clear hk
        go_wp2_with fail
        have hg9 := H5.out
        rw [HC2.out] at hg9
        exact bodyPost_end (v := .tuple #[]) (results_none (by rfl) _ _ _) (by rfl) ⟨rfl, A2, c2, A3, c3, _, _, _, hg9, M5.out, L5.out, P5.out, by omega, F5.out⟩
end Go.Proofs.YtdcjnkakibeigaaDoor
