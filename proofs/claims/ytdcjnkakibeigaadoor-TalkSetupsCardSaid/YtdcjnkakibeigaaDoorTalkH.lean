/-
  talk: hearRequest (made by mkTalkH.py).
-/
import Derived.Test.YtdcjnkakibeigaaDoorTalkF
import Derived.Test.YtdcjnkakibeigaaDoorTalkG
namespace Go.Proofs.YtdcjnkakibeigaaDoor
open Go.RowKit
set_option linter.unusedVariables false
set_option linter.unusedSimpArgs false
set_option maxRecDepth 8000 in
set_option maxHeartbeats 3200000 in
theorem hearReq_bad (g : Nat) (s : SV) (m : MV) (nA : Option Addr) (nc : Nat) (rA : Option Addr) (rc : Nat) (vA : Option Addr) (vc : Nat) (w : World) (h : Blk w g 66 s.cells) (hf : 0 ≤ s.f2 ∧ s.f2 ≤ 1) (hn : s.en ≤ 1000000) (hid : m.id ≠ s.f2 + 2 * (s.en : Int)) :
    Calls Tryd.prog 42 #[.pointer (some ⟨g, 0, none⟩), .agg (mvC m nA nc rA rc vA vc)] w fun r w' => r = .returned (.int .u64 4) ∧ Below w.heap.size w w' := by
  obtain ⟨srv, met, code, f1, m1, aA, an, ac, bA, bn, bc, B1, f2, m2, eA, en, ec, hA, hn', hc, B2, oA, on_, oc⟩ := s
  obtain ⟨kind, id, al, name, prio, ord, sg, so, eg, eo, sm, code', reason, nn, ver, vers⟩ := m
  unfold mvC
  unfold SV.cells at *
  simp only at h hf hn hid ⊢
  obtain ⟨W, hW⟩ : ∃ W, W = w.alloc (.cells #[.int .u64 kind, .int .u64 id, .int .u64 al, .slice nA name.length nc, .int .u8 prio, .int .u8 ord, .int .u64 sg, .int .u64 so, .int .u64 eg, .int .u64 eo, .bool sm, .int .u64 code', .slice rA reason.length rc, .int .u64 nn, .int .u64 ver, .slice vA vers.length vc] 31) := ⟨_, rfl⟩
  have bw := show Below w.heap.size w W by rw [hW]; exact (Below.refl _ _).alloc (Nat.le_refl _) _
  obtain ⟨gb, hgb⟩ : ∃ g, g = w.heap.size := ⟨_, rfl⟩
  have K0 := Lib.hid (show Blk W gb 31 #[.int .u64 kind, .int .u64 id, .int .u64 al, .slice nA name.length nc, .int .u8 prio, .int .u8 ord, .int .u64 sg, .int .u64 so, .int .u64 eg, .int .u64 eo, .bool sm, .int .u64 code', .slice rA reason.length rc, .int .u64 nn, .int .u64 ver, .slice vA vers.length vc] by rw [hW, hgb]; exact Blk.new _ _ _)
  have H0 := Lib.hid (h.below bw h.lt)
  have B0 := Lib.hid bw
  have HW := Lib.hid hW
  have HGB := Lib.hid hgb
  have hne : (id != f2 + 2 * (en : Int)) = true := by simpa using hid
  obtain ⟨X, hX⟩ : ∃ X, X = f2 + 2 * (en : Int) := ⟨_, rfl⟩
  rw [← hX] at hne
  have HX := Lib.hid hX
  clear hW bw h hgb hid hX
  go_enter Tryd.func42, Tryd.ntmps42
  go_upto_region 1 with (fail)
  rw [← HW.out, ← HGB.out]
  obtain ⟨u0, hu0⟩ : ∃ u, u = W.drew := ⟨_, rfl⟩
  have H1 := Lib.hid (show Blk u0 g 66 #[.bool srv, .bool met, .int .u64 code, .int .u64 f1, .int .u64 m1, .slice aA an ac, .slice bA bn bc, .map (some B1), .int .u64 f2, .int .u64 m2, .slice eA en ec, .slice hA hn' hc, .map (some B2), .slice oA on_ oc] by rw [hu0]; exact H0.out.drew)
  have K1 := Lib.hid (show Blk u0 gb 31 #[.int .u64 kind, .int .u64 id, .int .u64 al, .slice nA name.length nc, .int .u8 prio, .int .u8 ord, .int .u64 sg, .int .u64 so, .int .u64 eg, .int .u64 eo, .bool sm, .int .u64 code', .slice rA reason.length rc, .int .u64 nn, .int .u64 ver, .slice vA vers.length vc] by rw [hu0]; exact K0.out.drew)
  have B1' := Lib.hid (show Below w.heap.size w u0 by rw [hu0]; exact B0.out.drew)
  refine wp_region_held_drew (S := fun w' => Blk w' gb 31 #[.int .u64 kind, .int .u64 id, .int .u64 al, .slice nA name.length nc, .int .u8 prio, .int .u8 ord, .int .u64 sg, .int .u64 so, .int .u64 eg, .int .u64 eo, .bool sm, .int .u64 code', .slice rA reason.length rc, .int .u64 nn, .int .u64 ver, .slice vA vers.length vc]) (by kernel_rfl) K0.out.drew (fun s0 => ?_)
  rw [← hu0] at s0 ⊢
  clear hu0 HW HGB
  refine wpAnyH_take (i := 0) (oi := ⟨_, _, _, _, _, _⟩) (v := .pointer (some ⟨gb, 1, none⟩)) rfl (by kernel_rfl) (by kernel_rfl) (by kernel_rfl) (fun _ _ _ h => h) (Or.inl ⟨by rfl, fun w' hS => by go_simp⟩) s0 ?_
  simp only [Act.put, List.setIfInBounds_toArray, List.set_cons_zero, List.set_cons_succ]
  refine wpAnyH_take (i := 1) (oi := ⟨_, _, _, _, _, _⟩) (v := .int .u64 id) rfl (by kernel_rfl) (by kernel_rfl) (by kernel_rfl) (fun _ _ _ h => h) (Or.inl ⟨by rfl, fun w' hS => by have c1 := hS.cell 1; simp only [List.getElem?_toArray, List.getElem?_cons_zero, List.getElem?_cons_succ] at c1; have z0 := hS.lt; go_simp⟩) s0 ?_
  simp only [Act.put, List.setIfInBounds_toArray, List.set_cons_zero, List.set_cons_succ]
  refine wpAnyH_take (i := 2) (oi := ⟨_, _, _, _, _, _⟩) (v := .pointer (some ⟨g, 0, none⟩)) rfl (by kernel_rfl) (by kernel_rfl) (by kernel_rfl) (fun _ _ _ h => h) (Or.inl ⟨by rfl, fun w' hS => by go_simp⟩) s0 ?_
  simp only [Act.put, List.setIfInBounds_toArray, List.set_cons_zero, List.set_cons_succ]
  refine wpAnyH_take (i := 3) (oi := ⟨_, _, _, _, _, _⟩) (v := .pointer (some ⟨g, 0, none⟩)) rfl (by kernel_rfl) (by kernel_rfl) (by kernel_rfl) (fun _ _ _ h => h) (Or.inl ⟨by rfl, fun w' hS => by go_simp⟩) s0 ?_
  simp only [Act.put, List.setIfInBounds_toArray, List.set_cons_zero, List.set_cons_succ]
  refine wpAnyH_take (i := 4) (oi := ⟨_, _, _, _, _, _⟩) (v := .pointer (some ⟨g, 8, none⟩)) rfl (by kernel_rfl) (by kernel_rfl) (by kernel_rfl) (fun _ _ _ h => h) (Or.inl ⟨by rfl, fun w' hS => by go_simp⟩) s0 ?_
  simp only [Act.put, List.setIfInBounds_toArray, List.set_cons_zero, List.set_cons_succ]
  refine wpAnyH_ready (rs := [5]) (by kernel_rfl) (by simp) ?_
  refine AllReadyH.cons rfl (fun K hK => ?_) AllReadyH.nil
  go_simp
  refine (next_any g 8 f2 eA en ec u0 (H1.out.cell 8) (H1.out.cell 10) H1.out.lt hn hf).mono ?_
  rintro e u1 ⟨rfl, k, hk⟩
  have hb1 : Below u0.heap.size u0 u1 := by rw [hk]; exact ⟨rfl, rfl, rfl, Nat.le_refl _, fun _ _ => rfl⟩
  rw [← HX.out]
  refine hK.out _ _ (s0.below hb1 s0.lt) (fun s1 => ?_)
  clear hK K hk
  have B2' := Lib.hid (B1'.out.trans (hb1.mono B1'.out.size))
  refine wpAnyH_take (i := 6) (oi := ⟨_, _, _, _, _, _⟩) (v := .bool true) rfl (by kernel_rfl) (by kernel_rfl) (by kernel_rfl) (fun _ _ _ h => h) (Or.inl ⟨by rfl, fun w' hS => by go_simp⟩) s1 ?_
  simp only [Act.put, List.setIfInBounds_toArray, List.set_cons_zero, List.set_cons_succ]
  refine wpAnyH_take (i := 7) (oi := ⟨_, _, _, _, _, _⟩) (v := .bool true) rfl (by kernel_rfl) (by kernel_rfl) (by kernel_rfl) (fun _ _ _ h => h) (Or.inl ⟨by rfl, fun w' hS => by go_simp⟩) s1 ?_
  simp only [Act.put, List.setIfInBounds_toArray, List.set_cons_zero, List.set_cons_succ]
  refine wpAnyH_done (by kernel_rfl) ?_ _
  go_wp2_with fail
  go_ret
  exact ⟨rfl, B2'.out⟩
set_option maxRecDepth 8000 in
set_option maxHeartbeats 6400000 in
theorem hearReq_ok (g base n : Nat) (L : List Int) (xs ys : List Value) (s : SV) (m : MV) (nA : Option Addr) (nc : Nat) (rA : Option Addr) (rc : Nat) (vA : Option Addr) (vc : Nat) (w : World) (h : Blk w g 66 s.cells) (hf : 0 ≤ s.f2 ∧ s.f2 ≤ 1) (hn : s.en ≤ 1000000) (hid : m.id = s.f2 + 2 * (s.en : Int))
    (hfull : ¬ s.m2 ≤ (s.en : Int)) (hcol : (decide (m.alias_ ∈ L) && m.kind == 3) = false)
    (hm : OwnV w base 37 17 s.eA s.ec s.en xs) (hl : OwnV w base 22 1 s.hA s.hc s.hn ys) (hB : MapE w s.B2 n L) (hb : base ≤ w.heap.size) (hln : s.hn ≤ 1000000) (hnn : n ≤ 1000000)
    (h1 : Rd w nA m.name) (h1l : m.name.length ≤ 70368744177664) (h1A : nA = none → m.name = [] ∧ nc = 0) (h2 : Rd w rA m.reason) (h2l : m.reason.length ≤ 70368744177664) (h2A : rA = none → m.reason = [] ∧ rc = 0)
    (h3 : RdI .u64 w vA m.vers) (h3l : m.vers.length ≤ 1000000) (h3A : vA = none → m.vers = [] ∧ vc = 0) (ha : (Lit.int .u64 m.alias_).wf = true) :
    Calls Tryd.prog 42 #[.pointer (some ⟨g, 0, none⟩), .agg (mvC m nA nc rA rc vA vc)] w fun r w' => r = .returned (.int .u64 0) ∧
      ∃ A c A' c' zs n' L', Blk w' g 66 { s with eA := A, en := s.en + 1, ec := c, hA := A', hn := s.hn + 1, hc := c' }.cells ∧ OwnV w' base 37 17 A c (s.en + 1) zs ∧ OwnV w' base 22 1 A' c' (s.hn + 1) (ys ++ [.int .u64 m.id]) ∧
        MapE w' s.B2 n' L' ∧ n' ≤ n + 1 ∧ Frm w w' (fun b => b = g ∨ b = s.B2 ∨ (Value.slice s.eA s.en s.ec).ownBlock = some b ∨ (Value.slice s.hA s.hn s.hc).ownBlock = some b) := by
  obtain ⟨srv, met, code, f1, m1, aA, an, ac, bA, bn, bc, B1, f2, m2, eA, en, ec, hA, hn', hc, B2, oA, on_, oc⟩ := s
  obtain ⟨kind, id, al, name, prio, ord, sg, so, eg, eo, sm, code', reason, nn, ver, vers⟩ := m
  have AD := Lib.hid (fun W' (b : Below w.heap.size w W') (hh : Blk W' g 66 #[.bool srv, .bool met, .int .u64 code, .int .u64 f1, .int .u64 m1, .slice aA an ac, .slice bA bn bc, .map (some B1), .int .u64 f2, .int .u64 m2, .slice eA en ec, .slice hA hn' hc, .map (some B2), .slice oA on_ oc]) => add_any g 8 base #[.bool srv, .bool met, .int .u64 code, .int .u64 f1, .int .u64 m1, .slice aA an ac, .slice bA bn bc, .map (some B1), .int .u64 f2, .int .u64 m2, .slice eA en ec, .slice hA hn' hc, .map (some B2), .slice oA on_ oc] eA en ec hA hn' hc B2 n L xs ys ⟨kind, id, al, name, prio, ord, sg, so, eg, eo, sm, code', reason, nn, ver, vers⟩ nA nc rA rc vA vc W' hh rfl rfl rfl (OwnV.below hm b) (OwnV.below hl b) (hB.below b) (Nat.le_trans hb b.size) hn hln hnn (h1.below b) h1l h1A (h2.below b) h2l h2A (h3.below b) h3l h3A ha)
  have CO := Lib.hid (fun W' (b : Below w.heap.size w W') (hh : Blk W' g 66 #[.bool srv, .bool met, .int .u64 code, .int .u64 f1, .int .u64 m1, .slice aA an ac, .slice bA bn bc, .map (some B1), .int .u64 f2, .int .u64 m2, .slice eA en ec, .slice hA hn' hc, .map (some B2), .slice oA on_ oc]) => collides_any g 8 B2 n L ⟨kind, id, al, name, prio, ord, sg, so, eg, eo, sm, code', reason, nn, ver, vers⟩ nA nc rA rc vA vc W' (hh.cell 12) hh.lt (hB.below b) ha)
  unfold mvC at *
  unfold SV.cells at *
  simp only at h hf hn hid hfull hcol AD CO ⊢
  rw [hcol] at CO
  have hd : decide (m2 ≤ (en : Int)) = false := by simpa using hfull
  obtain ⟨W, hW⟩ : ∃ W, W = w.alloc (.cells #[.int .u64 kind, .int .u64 id, .int .u64 al, .slice nA name.length nc, .int .u8 prio, .int .u8 ord, .int .u64 sg, .int .u64 so, .int .u64 eg, .int .u64 eo, .bool sm, .int .u64 code', .slice rA reason.length rc, .int .u64 nn, .int .u64 ver, .slice vA vers.length vc] 31) := ⟨_, rfl⟩
  have bw := show Below w.heap.size w W by rw [hW]; exact (Below.refl _ _).alloc (Nat.le_refl _) _
  obtain ⟨gb, hgb⟩ : ∃ g, g = w.heap.size := ⟨_, rfl⟩
  have K0 := Lib.hid (show Blk W gb 31 #[.int .u64 kind, .int .u64 id, .int .u64 al, .slice nA name.length nc, .int .u8 prio, .int .u8 ord, .int .u64 sg, .int .u64 so, .int .u64 eg, .int .u64 eo, .bool sm, .int .u64 code', .slice rA reason.length rc, .int .u64 nn, .int .u64 ver, .slice vA vers.length vc] by rw [hW, hgb]; exact Blk.new _ _ _)
  have H0 := Lib.hid (h.below bw h.lt)
  have B0 := Lib.hid bw
  have HW := Lib.hid hW
  have HGB := Lib.hid hgb
  have hne : (id != f2 + 2 * (en : Int)) = false := by simpa using hid
  obtain ⟨X, hX⟩ : ∃ X, X = f2 + 2 * (en : Int) := ⟨_, rfl⟩
  rw [← hX] at hne
  have HX := Lib.hid hX
  have FU := Lib.hid (fun W' (hh : Blk W' g 66 #[.bool srv, .bool met, .int .u64 code, .int .u64 f1, .int .u64 m1, .slice aA an ac, .slice bA bn bc, .map (some B1), .int .u64 f2, .int .u64 m2, .slice eA en ec, .slice hA hn' hc, .map (some B2), .slice oA on_ oc]) => full_any g 8 m2 eA en ec W' (hh.cell 9) (hh.cell 10) hh.lt hn)
  rw [hd] at FU
  clear hW bw h hgb hid hX hfull hcol hd hm hl hB h1 h2 h3 h1l h2l h3l h1A h2A h3A hb hln hnn ha
  go_enter Tryd.func42, Tryd.ntmps42
  go_upto_region 1 with (fail)
  rw [← HW.out, ← HGB.out]
  obtain ⟨u0, hu0⟩ : ∃ u, u = W.drew := ⟨_, rfl⟩
  have H1 := Lib.hid (show Blk u0 g 66 #[.bool srv, .bool met, .int .u64 code, .int .u64 f1, .int .u64 m1, .slice aA an ac, .slice bA bn bc, .map (some B1), .int .u64 f2, .int .u64 m2, .slice eA en ec, .slice hA hn' hc, .map (some B2), .slice oA on_ oc] by rw [hu0]; exact H0.out.drew)
  have K1 := Lib.hid (show Blk u0 gb 31 #[.int .u64 kind, .int .u64 id, .int .u64 al, .slice nA name.length nc, .int .u8 prio, .int .u8 ord, .int .u64 sg, .int .u64 so, .int .u64 eg, .int .u64 eo, .bool sm, .int .u64 code', .slice rA reason.length rc, .int .u64 nn, .int .u64 ver, .slice vA vers.length vc] by rw [hu0]; exact K0.out.drew)
  have B1' := Lib.hid (show Below w.heap.size w u0 by rw [hu0]; exact B0.out.drew)
  refine wp_region_held_drew (S := fun w' => Blk w' gb 31 #[.int .u64 kind, .int .u64 id, .int .u64 al, .slice nA name.length nc, .int .u8 prio, .int .u8 ord, .int .u64 sg, .int .u64 so, .int .u64 eg, .int .u64 eo, .bool sm, .int .u64 code', .slice rA reason.length rc, .int .u64 nn, .int .u64 ver, .slice vA vers.length vc]) (by kernel_rfl) K0.out.drew (fun s0 => ?_)
  rw [← hu0] at s0 ⊢
  clear hu0 HW HGB H0 K0 B0
  refine wpAnyH_take (i := 0) (oi := ⟨_, _, _, _, _, _⟩) (v := .pointer (some ⟨gb, 1, none⟩)) rfl (by kernel_rfl) (by kernel_rfl) (by kernel_rfl) (fun _ _ _ h => h) (Or.inl ⟨by rfl, fun w' hS => by go_simp⟩) s0 ?_
  simp only [Act.put, List.setIfInBounds_toArray, List.set_cons_zero, List.set_cons_succ]
  refine wpAnyH_take (i := 1) (oi := ⟨_, _, _, _, _, _⟩) (v := .int .u64 id) rfl (by kernel_rfl) (by kernel_rfl) (by kernel_rfl) (fun _ _ _ h => h) (Or.inl ⟨by rfl, fun w' hS => by have c1 := hS.cell 1; simp only [List.getElem?_toArray, List.getElem?_cons_zero, List.getElem?_cons_succ] at c1; have z0 := hS.lt; go_simp⟩) s0 ?_
  simp only [Act.put, List.setIfInBounds_toArray, List.set_cons_zero, List.set_cons_succ]
  refine wpAnyH_take (i := 2) (oi := ⟨_, _, _, _, _, _⟩) (v := .pointer (some ⟨g, 0, none⟩)) rfl (by kernel_rfl) (by kernel_rfl) (by kernel_rfl) (fun _ _ _ h => h) (Or.inl ⟨by rfl, fun w' hS => by go_simp⟩) s0 ?_
  simp only [Act.put, List.setIfInBounds_toArray, List.set_cons_zero, List.set_cons_succ]
  refine wpAnyH_take (i := 3) (oi := ⟨_, _, _, _, _, _⟩) (v := .pointer (some ⟨g, 0, none⟩)) rfl (by kernel_rfl) (by kernel_rfl) (by kernel_rfl) (fun _ _ _ h => h) (Or.inl ⟨by rfl, fun w' hS => by go_simp⟩) s0 ?_
  simp only [Act.put, List.setIfInBounds_toArray, List.set_cons_zero, List.set_cons_succ]
  refine wpAnyH_take (i := 4) (oi := ⟨_, _, _, _, _, _⟩) (v := .pointer (some ⟨g, 8, none⟩)) rfl (by kernel_rfl) (by kernel_rfl) (by kernel_rfl) (fun _ _ _ h => h) (Or.inl ⟨by rfl, fun w' hS => by go_simp⟩) s0 ?_
  simp only [Act.put, List.setIfInBounds_toArray, List.set_cons_zero, List.set_cons_succ]
  refine wpAnyH_ready (rs := [5]) (by kernel_rfl) (by simp) ?_
  refine AllReadyH.cons rfl (fun K hK => ?_) AllReadyH.nil
  go_simp
  refine (next_any g 8 f2 eA en ec u0 (H1.out.cell 8) (H1.out.cell 10) H1.out.lt hn hf).mono ?_
  rintro e u1 ⟨rfl, k, hk⟩
  have hb1 : Below u0.heap.size u0 u1 := by rw [hk]; exact ⟨rfl, rfl, rfl, Nat.le_refl _, fun _ _ => rfl⟩
  rw [← HX.out]
  refine hK.out _ _ (s0.below hb1 s0.lt) (fun s1 => ?_)
  clear hK K hk
  have B2' := Lib.hid (B1'.out.trans (hb1.mono B1'.out.size))
  have H2 := Lib.hid (H1.out.below hb1 H1.out.lt)
  have K2 := Lib.hid (K1.out.below hb1 K1.out.lt)
  clear hb1 s0 H1 K1 B1'
  refine wpAnyH_take (i := 6) (oi := ⟨_, _, _, _, _, _⟩) (v := .bool false) rfl (by kernel_rfl) (by kernel_rfl) (by kernel_rfl) (fun _ _ _ h => h) (Or.inl ⟨by rfl, fun w' hS => by go_simp⟩) s1 ?_
  simp only [Act.put, List.setIfInBounds_toArray, List.set_cons_zero, List.set_cons_succ]
  refine wpAnyH_take (i := 7) (oi := ⟨_, _, _, _, _, _⟩) (v := .bool false) rfl (by kernel_rfl) (by kernel_rfl) (by kernel_rfl) (fun _ _ _ h => h) (Or.inl ⟨by rfl, fun w' hS => by go_simp⟩) s1 ?_
  simp only [Act.put, List.setIfInBounds_toArray, List.set_cons_zero, List.set_cons_succ]
  refine wpAnyH_done (by kernel_rfl) ?_ _
  clear s1
  go_wp2_with fail
  refine (FU.out u1 H2.out).mono ?_
  rintro e u2 ⟨rfl, k, hk⟩
  have hb1 : Below u1.heap.size u1 u2 := by rw [hk]; exact ⟨rfl, rfl, rfl, Nat.le_refl _, fun _ _ => rfl⟩
  have B3' := Lib.hid (B2'.out.trans (hb1.mono B2'.out.size))
  have H3 := Lib.hid (H2.out.below hb1 H2.out.lt)
  have K3 := Lib.hid (K2.out.below hb1 K2.out.lt)
  clear hk hb1 H2 K2 B2' FU
  go_upto_region 5 with (fail)
  obtain ⟨u3, hu3⟩ : ∃ u, u = u2.drew := ⟨_, rfl⟩
  have H4 := Lib.hid (show Blk u3 g 66 #[.bool srv, .bool met, .int .u64 code, .int .u64 f1, .int .u64 m1, .slice aA an ac, .slice bA bn bc, .map (some B1), .int .u64 f2, .int .u64 m2, .slice eA en ec, .slice hA hn' hc, .map (some B2), .slice oA on_ oc] by rw [hu3]; exact H3.out.drew)
  have K4 := Lib.hid (show Blk u3 gb 31 #[.int .u64 kind, .int .u64 id, .int .u64 al, .slice nA name.length nc, .int .u8 prio, .int .u8 ord, .int .u64 sg, .int .u64 so, .int .u64 eg, .int .u64 eo, .bool sm, .int .u64 code', .slice rA reason.length rc, .int .u64 nn, .int .u64 ver, .slice vA vers.length vc] by rw [hu3]; exact K3.out.drew)
  have B4' := Lib.hid (show Below w.heap.size w u3 by rw [hu3]; exact B3'.out.drew)
  refine wp_region_held_drew (S := fun w' => Blk w' gb 31 #[.int .u64 kind, .int .u64 id, .int .u64 al, .slice nA name.length nc, .int .u8 prio, .int .u8 ord, .int .u64 sg, .int .u64 so, .int .u64 eg, .int .u64 eo, .bool sm, .int .u64 code', .slice rA reason.length rc, .int .u64 nn, .int .u64 ver, .slice vA vers.length vc]) (by kernel_rfl) K3.out.drew (fun s0 => ?_)
  rw [← hu3] at s0 ⊢
  clear hu3 H3 K3 B3'
  refine wpAnyH_take (i := 0) (oi := ⟨_, _, _, _, _, _⟩) (v := .pointer (some ⟨g, 0, none⟩)) rfl (by kernel_rfl) (by kernel_rfl) (by kernel_rfl) (fun _ _ _ h => h) (Or.inl ⟨by rfl, fun w' hS => by go_simp⟩) s0 ?_
  simp only [Act.put, List.setIfInBounds_toArray, List.set_cons_zero, List.set_cons_succ]
  refine wpAnyH_take (i := 1) (oi := ⟨_, _, _, _, _, _⟩) (v := .pointer (some ⟨g, 0, none⟩)) rfl (by kernel_rfl) (by kernel_rfl) (by kernel_rfl) (fun _ _ _ h => h) (Or.inl ⟨by rfl, fun w' hS => by go_simp⟩) s0 ?_
  simp only [Act.put, List.setIfInBounds_toArray, List.set_cons_zero, List.set_cons_succ]
  refine wpAnyH_take (i := 2) (oi := ⟨_, _, _, _, _, _⟩) (v := .pointer (some ⟨g, 8, none⟩)) rfl (by kernel_rfl) (by kernel_rfl) (by kernel_rfl) (fun _ _ _ h => h) (Or.inl ⟨by rfl, fun w' hS => by go_simp⟩) s0 ?_
  simp only [Act.put, List.setIfInBounds_toArray, List.set_cons_zero, List.set_cons_succ]
  refine wpAnyH_take (i := 3) (oi := ⟨_, _, _, _, _, _⟩) (v := .agg #[.int .u64 kind, .int .u64 id, .int .u64 al, .slice nA name.length nc, .int .u8 prio, .int .u8 ord, .int .u64 sg, .int .u64 so, .int .u64 eg, .int .u64 eo, .bool sm, .int .u64 code', .slice rA reason.length rc, .int .u64 nn, .int .u64 ver, .slice vA vers.length vc]) rfl (by kernel_rfl) (by kernel_rfl) (by kernel_rfl) (fun _ _ _ h => h) (Or.inl ⟨by rfl, fun w' hS => by have c0 := hS.cell 0; have c1 := hS.cell 1; have c2 := hS.cell 2; have c3 := hS.cell 3; have c4 := hS.cell 4; have c5 := hS.cell 5; have c6 := hS.cell 6; have c7 := hS.cell 7; have c8 := hS.cell 8; have c9 := hS.cell 9; have c10 := hS.cell 10; have c11 := hS.cell 11; have c12 := hS.cell 12; have c13 := hS.cell 13; have c14 := hS.cell 14; have c15 := hS.cell 15; simp only [List.getElem?_toArray, List.getElem?_cons_zero, List.getElem?_cons_succ] at c0 c1 c2 c3 c4 c5 c6 c7 c8 c9 c10 c11 c12 c13 c14 c15; have z0 := hS.lt; go_simp⟩) s0 ?_
  simp only [Act.put, List.setIfInBounds_toArray, List.set_cons_zero, List.set_cons_succ]
  refine wpAnyH_ready (rs := [4]) (by kernel_rfl) (by simp) ?_
  refine AllReadyH.cons rfl (fun K hK => ?_) AllReadyH.nil
  go_simp
  refine (CO.out u3 B4'.out H4.out).mono ?_
  rintro e u4 ⟨rfl, hb1⟩
  refine hK.out _ _ (s0.below hb1 s0.lt) (fun s1 => ?_)
  clear hK K
  have B5' := Lib.hid (B4'.out.trans (hb1.mono B4'.out.size))
  have H5 := Lib.hid (H4.out.below hb1 H4.out.lt)
  have K5 := Lib.hid (K4.out.below hb1 K4.out.lt)
  clear hb1 s0 H4 K4 B4' CO
  refine wpAnyH_take (i := 5) (oi := ⟨_, _, _, _, _, _⟩) (v := .bool false) rfl (by kernel_rfl) (by kernel_rfl) (by kernel_rfl) (fun _ _ _ h => h) (Or.inl ⟨by rfl, fun w' hS => by go_simp⟩) s1 ?_
  simp only [Act.put, List.setIfInBounds_toArray, List.set_cons_zero, List.set_cons_succ]
  refine wpAnyH_done (by kernel_rfl) ?_ _
  clear s1
  go_upto_region 7 with (fail)
  obtain ⟨u5, hu5⟩ : ∃ u, u = u4.drew := ⟨_, rfl⟩
  have H6 := Lib.hid (show Blk u5 g 66 #[.bool srv, .bool met, .int .u64 code, .int .u64 f1, .int .u64 m1, .slice aA an ac, .slice bA bn bc, .map (some B1), .int .u64 f2, .int .u64 m2, .slice eA en ec, .slice hA hn' hc, .map (some B2), .slice oA on_ oc] by rw [hu5]; exact H5.out.drew)
  have K6 := Lib.hid (show Blk u5 gb 31 #[.int .u64 kind, .int .u64 id, .int .u64 al, .slice nA name.length nc, .int .u8 prio, .int .u8 ord, .int .u64 sg, .int .u64 so, .int .u64 eg, .int .u64 eo, .bool sm, .int .u64 code', .slice rA reason.length rc, .int .u64 nn, .int .u64 ver, .slice vA vers.length vc] by rw [hu5]; exact K5.out.drew)
  have B6' := Lib.hid (show Below w.heap.size w u5 by rw [hu5]; exact B5'.out.drew)
  refine wp_region_held_drew (S := fun _ => True) (by kernel_rfl) trivial (fun s0 => ?_)
  rw [← hu5]
  clear hu5 H5 K5 B5'
  refine wpAnyH_take (i := 0) (oi := ⟨_, _, _, _, _, _⟩) (v := .pointer (some ⟨g, 0, none⟩)) rfl (by kernel_rfl) (by kernel_rfl) (by kernel_rfl) (fun _ _ _ h => h) (Or.inl ⟨by rfl, fun w' hS => by go_simp⟩) s0 ?_
  simp only [Act.put, List.setIfInBounds_toArray, List.set_cons_zero, List.set_cons_succ]
  refine wpAnyH_take (i := 1) (oi := ⟨_, _, _, _, _, _⟩) (v := .pointer (some ⟨g, 0, none⟩)) rfl (by kernel_rfl) (by kernel_rfl) (by kernel_rfl) (fun _ _ _ h => h) (Or.inl ⟨by rfl, fun w' hS => by go_simp⟩) s0 ?_
  simp only [Act.put, List.setIfInBounds_toArray, List.set_cons_zero, List.set_cons_succ]
  refine wpAnyH_take (i := 2) (oi := ⟨_, _, _, _, _, _⟩) (v := .pointer (some ⟨g, 8, none⟩)) rfl (by kernel_rfl) (by kernel_rfl) (by kernel_rfl) (fun _ _ _ h => h) (Or.inl ⟨by rfl, fun w' hS => by go_simp⟩) s0 ?_
  simp only [Act.put, List.setIfInBounds_toArray, List.set_cons_zero, List.set_cons_succ]
  refine wpAnyH_ready (rs := [3]) (by kernel_rfl) (by simp) ?_
  refine AllReadyH.cons rfl (fun K hK => ?_) AllReadyH.nil
  have c0 := K6.out.cell 0; have c1 := K6.out.cell 1; have c2 := K6.out.cell 2; have c3 := K6.out.cell 3; have c4 := K6.out.cell 4; have c5 := K6.out.cell 5; have c6 := K6.out.cell 6; have c7 := K6.out.cell 7; have c8 := K6.out.cell 8; have c9 := K6.out.cell 9; have c10 := K6.out.cell 10; have c11 := K6.out.cell 11; have c12 := K6.out.cell 12; have c13 := K6.out.cell 13; have c14 := K6.out.cell 14; have c15 := K6.out.cell 15
  simp only [List.getElem?_toArray, List.getElem?_cons_zero, List.getElem?_cons_succ] at c0 c1 c2 c3 c4 c5 c6 c7 c8 c9 c10 c11 c12 c13 c14 c15
  have z0 := K6.out.lt
  go_simp
  refine hK.out _ _ trivial (fun s1 => ?_)
  clear hK K z0 c0 c1 c2 c3 c4 c5 c6 c7 c8 c9 c10 c11 c12 c13 c14 c15
  refine wpAnyH_ready (rs := [4]) (by kernel_rfl) (by simp) ?_
  refine AllReadyH.cons rfl (fun K hK => ?_) AllReadyH.nil
  go_simp
  refine (AD.out u5 B6'.out H6.out).mono ?_
  rintro e u6 ⟨rfl, A, c, A', c', zs, n', L', kb, oz, ol, om, hle, fr⟩
  refine hK.out _ _ trivial (fun s2 => ?_)
  clear hK K s1 s0
  have HH := Lib.hid kb
  have FR := Lib.hid ((Frm.of_below B6'.out).trans (Frm.mono fr (T := fun b => b = g ∨ b = B2 ∨ (Value.slice eA en ec).ownBlock = some b ∨ (Value.slice hA hn' hc).ownBlock = some b) (fun _ _ h => h)))
  have RS := Lib.hid (And.intro oz (And.intro ol (And.intro om hle)))
  clear kb oz ol om hle fr
  refine wpAnyH_done (by kernel_rfl) ?_ _
  clear s2
  go_wp2_with fail
  go_ret
  exact ⟨rfl, A, c, A', c', zs, n', L', HH.out, RS.out.1, RS.out.2.1, RS.out.2.2.1, RS.out.2.2.2, FR.out⟩
end Go.Proofs.YtdcjnkakibeigaaDoor
