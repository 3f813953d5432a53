/-
  talk: meet, a server's (made by mkTalkJ.py).
-/
import Derived.Test.YtdcjnkakibeigaaDoorTalkE
import Derived.Test.YtdcjnkakibeigaaDoorTalkI
namespace Go.Proofs.YtdcjnkakibeigaaDoor
open Go.RowKit
set_option linter.unusedVariables false
set_option linter.unusedSimpArgs false
def mvSS (n : Int) : MV := ⟨33, 0, 0, [], 0, 0, 0, 0, 0, 0, false, 0, [], n, 1, []⟩
set_option maxRecDepth 8000 in
set_option maxHeartbeats 3200000 in
theorem meet_srv (g base : Nat) (xs : List Value) (s : SV) (m : MV) (nA : Option Addr) (nc : Nat) (rA : Option Addr) (rc : Nat) (vA : Option Addr) (vc : Nat) (w : World) (h : Blk w g 66 s.cells) (hs : s.srv = true) (hk : m.kind = 32) (hv : (1 : Int) ∈ m.vers) (h3 : RdI .u64 w vA m.vers) (h3l : m.vers.length ≤ 1000000)
    (ho : OwnV w base 31 16 s.oA s.oc s.on_ xs) (hb : base ≤ w.heap.size) (hl : s.on_ ≤ 1000000) (hn0 : 0 ≤ m.n) (hn1 : m.n < 1152921504606846976) :
    Calls Tryd.prog 41 #[.pointer (some ⟨g, 0, none⟩), .agg (mvC m nA nc rA rc vA vc)] w fun r w' => r = .returned (.int .u64 0) ∧
      ∃ A' c', Blk w' g 66 { s with met := true, m1 := m.n, oA := A', on_ := s.on_ + 1, oc := c' }.cells ∧ OwnV w' base 31 16 A' c' (s.on_ + 1) (xs ++ (mvC (mvSS s.m2) none 0 none 0 none 0).toList) ∧
        Frm w w' (fun b => b = g ∨ (Value.slice s.oA s.on_ s.oc).ownBlock = some b) := by
  obtain ⟨srv, met, code, f1, m1, aA, an, ac, bA, bn, bc, B1, f2, m2, eA, en, ec, hA, hn', hc, B2, oA, on_, oc⟩ := s
  obtain ⟨kind, id, al, name, prio, ord, sg, so, eg, eo, sm, code', reason, nn, ver, vers⟩ := m
  simp only at hs hk
  subst hs
  subst hk
  have SE := Lib.hid (fun W' (hh : Blk W' g 66 #[.bool true, .bool met, .int .u64 code, .int .u64 f1, .int .u64 m1, .slice aA an ac, .slice bA bn bc, .map (some B1), .int .u64 f2, .int .u64 m2, .slice eA en ec, .slice hA hn' hc, .map (some B2), .slice oA on_ oc]) (hO : OwnV W' base 31 16 oA oc on_ xs) (hb : base ≤ W'.heap.size) => send_any g base ⟨true, met, code, f1, m1, aA, an, ac, bA, bn, bc, B1, f2, m2, eA, en, ec, hA, hn', hc, B2, oA, on_, oc⟩ xs (mvSS m2) none 0 none 0 none 0 W' hh hO hb hl)
  unfold mvC at *
  unfold SV.cells at *
  unfold mvSS at *
  simp only [List.length_nil] at h hv h3 h3l ho hl hn0 hn1 SE ⊢
  have CT := Lib.hid (fun W' (b : Below w.heap.size w W') => containsU_any vA vc vers 1 W' (h3.below b) h3l)
  rw [decide_eq_true hv] at CT
  have hmin : min nn 1152921504606846976 = nn := by omega
  obtain ⟨W, hW⟩ : ∃ W, W = w.alloc (.cells #[.int .u64 32, .int .u64 id, .int .u64 al, .slice nA name.length nc, .int .u8 prio, .int .u8 ord, .int .u64 sg, .int .u64 so, .int .u64 eg, .int .u64 eo, .bool sm, .int .u64 code', .slice rA reason.length rc, .int .u64 nn, .int .u64 ver, .slice vA vers.length vc] 31) := ⟨_, rfl⟩
  have bw := show Below w.heap.size w W by rw [hW]; exact (Below.refl _ _).alloc (Nat.le_refl _) _
  obtain ⟨gb, hgb⟩ : ∃ g, g = w.heap.size := ⟨_, rfl⟩
  have K0 := Lib.hid (show Blk W gb 31 #[.int .u64 32, .int .u64 id, .int .u64 al, .slice nA name.length nc, .int .u8 prio, .int .u8 ord, .int .u64 sg, .int .u64 so, .int .u64 eg, .int .u64 eo, .bool sm, .int .u64 code', .slice rA reason.length rc, .int .u64 nn, .int .u64 ver, .slice vA vers.length vc] by rw [hW, hgb]; exact Blk.new _ _ _)
  have H0 := Lib.hid (h.below bw h.lt)
  have O0 := Lib.hid (OwnV.below ho bw)
  have B0 := Lib.hid bw
  have HW := Lib.hid hW
  have HGB := Lib.hid hgb
  have hbW : base ≤ W.heap.size := by have := bw.size; omega
  have HROW := Lib.hid (show ∀ k, (Value.slice oA on_ oc).ownBlock = some k → k < w.heap.size from fun k e => OwnV.row_lt ho e)
  have HGW := Lib.hid hgb
  clear hW bw h hgb hv h3 h3l ho hn0 hn1 hb
  go_enter Tryd.func41, Tryd.ntmps41
  go_upto_region 2 with (fail)
  rw [← HW.out, ← HGB.out]
  have d0 := H0.out.cell 0
  have d9 := H0.out.cell 9
  simp only [List.getElem?_toArray, List.getElem?_cons_zero, List.getElem?_cons_succ] at d0 d9
  have k0 := K0.out.cell 0
  have k13 := K0.out.cell 13
  have k15 := K0.out.cell 15
  simp only [List.getElem?_toArray, List.getElem?_cons_zero, List.getElem?_cons_succ] at k0 k13 k15
  have zg := H0.out.lt
  have zb := K0.out.lt
  go_wp2_with fail
  refine (CT.out W B0.out).mono ?_
  rintro e w1 ⟨rfl, rfl⟩
  go_wp2_with fail
  refine (SE.out _ H0.out O0.out hbW).mono ?_
  rintro e w2 ⟨rfl, A', c', hk2, ho2, fr, _⟩
  have K2 := Lib.hid (fr.keep K0.out (fun e => by rcases e with e | e; exact (Blk.ne_ K0.out H0.out (by decide) e); exact absurd (HROW.out gb e) (by have := HGW.out; omega)))
  have hg3 := Lib.hid hk2
  have HO3 := Lib.hid ho2
  have FR3 := Lib.hid ((Frm.of_below (S := fun b => b = g ∨ (Value.slice oA on_ oc).ownBlock = some b) B0.out).trans (fr.mono (fun _ _ h => h)))
  clear hk2 ho2 fr SE CT d0 d9 k0 k13 k15 zg zb
  have d1 := hg3.out.cell 1
  have f1' := hg3.out.frozen 1
  have z1 := hg3.out.lt
  simp only [List.getElem?_toArray, List.getElem?_cons_zero, List.getElem?_cons_succ] at d1
  have hgne : gb ≠ g := by have := Blk.ne_ K0.out H0.out; intro e; subst e; have a := K2.out.cell 0; have b := hg3.out.cell 0; simp only [List.getElem?_toArray, List.getElem?_cons_zero] at a b; rw [a] at b; cases b
  have gs : w2.grownBy (w2.setCell ⟨g, 1, none⟩ (.bool true)) (some g) := only_set (only_refl w2 (some g)) (p := ⟨g, 1, none⟩) rfl _
  have H4 := Lib.hid (hg3.out.set_ 1 (.bool true))
  have K4 := Lib.hid (K2.out.far (p := ⟨g, 1, none⟩) hgne (.bool true))
  have O4 := Lib.hid (OwnV.grownT HO3.out hg3.out (by decide) gs)
  have F4 := Lib.hid (FR3.out.set (p := ⟨g, 1, none⟩) (.inr (.inl rfl)) (.bool true))
  obtain ⟨w3, hw3⟩ : ∃ v, v = w2.setCell ⟨g, 1, none⟩ (.bool true) := ⟨_, rfl⟩
  go_upto_region 10 with (fail)
  rw [← hw3] at H4 K4 O4 F4 ⊢
  clear hw3 gs d1 f1' z1 hg3 K2 HO3 FR3
  have d4 := H4.out.cell 4
  have f4 := H4.out.frozen 4
  have z4 := H4.out.lt
  have k13 := K4.out.cell 13
  have zb := K4.out.lt
  simp only [List.setIfInBounds_toArray, List.set_cons_zero, List.set_cons_succ, List.getElem?_toArray, List.getElem?_cons_zero, List.getElem?_cons_succ] at d4 k13
  have gs : w3.grownBy (w3.setCell ⟨g, 4, none⟩ (.int .u64 nn)) (some g) := only_set (only_refl w3 (some g)) (p := ⟨g, 4, none⟩) rfl _
  have H5 := Lib.hid (H4.out.set_ 4 (.int .u64 nn))
  have O5 := Lib.hid (OwnV.grownT O4.out H4.out (by decide) gs)
  have F5 := Lib.hid (F4.out.set (p := ⟨g, 4, none⟩) (.inr (.inl rfl)) (.int .u64 nn))
  clear gs H0 K0 O0 B0
  go_wp2_with fail
  go_ret
  exact ⟨rfl, A', c', H5.out, O5.out, F5.out⟩
end Go.Proofs.YtdcjnkakibeigaaDoor
