/-
  talk: hear and Hear (made by mkTalkK.py).
-/
import Derived.Test.YtdcjnkakibeigaaDoorTalkH
import Derived.Test.YtdcjnkakibeigaaDoorTalkJ
namespace Go.Proofs.YtdcjnkakibeigaaDoor
open Go.RowKit
set_option linter.unusedVariables false
set_option linter.unusedSimpArgs false
theorem GM.grow {base base' : Nat} {w : World} {nA rA vA : Option Addr} {m : MV} (h : GM base w nA rA vA m) (hb : base ≤ base') : GM base' w nA rA vA m :=
  ⟨h.nm.more hb, h.rs.more hb, Reads.more h.vs hb⟩
set_option maxRecDepth 8000 in
set_option maxHeartbeats 3200000 in
theorem hear_meet (g : Nat) (s : SV) (m : MV) (nA : Option Addr) (nc : Nat) (rA : Option Addr) (rc : Nat) (vA : Option Addr) (vc : Nat) (w : World) (P : Ending → World → Prop) (h : Blk w g 66 s.cells) (hmet : s.met = false) (ht : Tab w) (hval : validB m = true) (hg : GoodV m ∧ InR m.kind) (hr : GM w.heap.size w nA rA vA m)
    (hn : m.name.length ≤ 9223372036854775807) (hrl : m.reason.length ≤ 9223372036854775807) (hl : m.vers.length ≤ 1000000)
    (C : ∀ W', Below w.heap.size w W' → Calls Tryd.prog 41 #[.pointer (some ⟨g, 0, none⟩), .agg (mvC m nA nc rA rc vA vc)] W' fun r w' => ∃ k : Int, r = .returned (.int .u64 k) ∧ P r w') :
    Calls Tryd.prog 26 #[.pointer (some ⟨g, 0, none⟩), .agg (mvC m nA nc rA rc vA vc)] w fun r w' => ∃ k : Int, r = .returned (.int .u64 k) ∧ P r w' := by
  have VA := Lib.hid (fun W' (b : Below w.heap.size w W') => validT_any m nA nc rA rc vA vc W' (ht.below b) (fun _ => hg) ((hr.below b).grow b.size) hn hrl hl)
  obtain ⟨srv, met, code, f1, m1, aA, an, ac, bA, bn, bc, B1, f2, m2, eA, en, ec, hA, hn', hc, B2, oA, on_, oc⟩ := s
  obtain ⟨kind, id, al, name, prio, ord, sg, so, eg, eo, sm, code', reason, nn, ver, vers⟩ := m
  simp only at hmet
  subst hmet
  have CC := Lib.hid C
  rw [hval] at VA
  unfold mvC at *
  unfold SV.cells at *
  simp only at h VA CC ⊢
  obtain ⟨W, hW⟩ : ∃ W, W = w.alloc (.cells #[.int .u64 kind, .int .u64 id, .int .u64 al, .slice nA name.length nc, .int .u8 prio, .int .u8 ord, .int .u64 sg, .int .u64 so, .int .u64 eg, .int .u64 eo, .bool sm, .int .u64 code', .slice rA reason.length rc, .int .u64 nn, .int .u64 ver, .slice vA vers.length vc] 31) := ⟨_, rfl⟩
  have bw := show Below w.heap.size w W by rw [hW]; exact (Below.refl _ _).alloc (Nat.le_refl _) _
  obtain ⟨gb, hgb⟩ : ∃ g, g = w.heap.size := ⟨_, rfl⟩
  have K0 := Lib.hid (show Blk W gb 31 #[.int .u64 kind, .int .u64 id, .int .u64 al, .slice nA name.length nc, .int .u8 prio, .int .u8 ord, .int .u64 sg, .int .u64 so, .int .u64 eg, .int .u64 eo, .bool sm, .int .u64 code', .slice rA reason.length rc, .int .u64 nn, .int .u64 ver, .slice vA vers.length vc] by rw [hW, hgb]; exact Blk.new _ _ _)
  have H0 := Lib.hid (h.below bw h.lt)
  have B0 := Lib.hid bw
  have HW := Lib.hid hW
  have HGB := Lib.hid hgb
  clear hW bw h hgb ht hval hg hr hn hrl hl C
  go_enter Tryd.func26, Tryd.ntmps26
  go_upto_region 1 with (fail)
  rw [← HW.out, ← HGB.out]
  have k0 := K0.out.cell 0
  have k1 := K0.out.cell 1
  have k2 := K0.out.cell 2
  have k3 := K0.out.cell 3
  have k4 := K0.out.cell 4
  have k5 := K0.out.cell 5
  have k6 := K0.out.cell 6
  have k7 := K0.out.cell 7
  have k8 := K0.out.cell 8
  have k9 := K0.out.cell 9
  have k10 := K0.out.cell 10
  have k11 := K0.out.cell 11
  have k12 := K0.out.cell 12
  have k13 := K0.out.cell 13
  have k14 := K0.out.cell 14
  have k15 := K0.out.cell 15
  simp only [List.getElem?_toArray, List.getElem?_cons_zero, List.getElem?_cons_succ] at k0 k1 k2 k3 k4 k5 k6 k7 k8 k9 k10 k11 k12 k13 k14 k15
  have zb := K0.out.lt
  go_wp2_with fail
  refine (VA.out W B0.out).mono ?_
  rintro e w1 ⟨rfl, b1⟩
  clear k0 k1 k2 k3 k4 k5 k6 k7 k8 k9 k10 k11 k12 k13 k14 k15 zb
  have K1 := Lib.hid (K0.out.below b1 K0.out.lt)
  have H1 := Lib.hid (H0.out.below b1 H0.out.lt)
  have B1' := Lib.hid (B0.out.trans (b1.mono B0.out.size))
  clear b1 K0 H0 B0 VA
  have k0 := K1.out.cell 0
  have k1 := K1.out.cell 1
  have k2 := K1.out.cell 2
  have k3 := K1.out.cell 3
  have k4 := K1.out.cell 4
  have k5 := K1.out.cell 5
  have k6 := K1.out.cell 6
  have k7 := K1.out.cell 7
  have k8 := K1.out.cell 8
  have k9 := K1.out.cell 9
  have k10 := K1.out.cell 10
  have k11 := K1.out.cell 11
  have k12 := K1.out.cell 12
  have k13 := K1.out.cell 13
  have k14 := K1.out.cell 14
  have k15 := K1.out.cell 15
  simp only [List.getElem?_toArray, List.getElem?_cons_zero, List.getElem?_cons_succ] at k0 k1 k2 k3 k4 k5 k6 k7 k8 k9 k10 k11 k12 k13 k14 k15
  have zb := K1.out.lt
  have d1 := H1.out.cell 1
  simp only [List.getElem?_toArray, List.getElem?_cons_zero, List.getElem?_cons_succ] at d1
  have zg := H1.out.lt
  go_wp2_with fail
  refine (CC.out w1 B1'.out).mono ?_
  rintro e w2 ⟨k, rfl, hP⟩
  have HP := Lib.hid hP
  clear hP
  go_wp2_with fail
  go_ret
  exact ⟨k, rfl, HP.out⟩
set_option maxRecDepth 8000 in
set_option maxHeartbeats 3200000 in
theorem hear_req (g : Nat) (s : SV) (m : MV) (nA : Option Addr) (nc : Nat) (rA : Option Addr) (rc : Nat) (vA : Option Addr) (vc : Nat) (w : World) (P : Ending → World → Prop) (h : Blk w g 66 s.cells) (hmet : s.met = true) (hkind : m.kind = 3) (ht : Tab w) (hval : validB m = true) (hg : GoodV m ∧ InR m.kind) (hr : GM w.heap.size w nA rA vA m)
    (hn : m.name.length ≤ 9223372036854775807) (hrl : m.reason.length ≤ 9223372036854775807) (hl : m.vers.length ≤ 1000000)
    (C : ∀ W', Below w.heap.size w W' → Calls Tryd.prog 42 #[.pointer (some ⟨g, 0, none⟩), .agg (mvC m nA nc rA rc vA vc)] W' fun r w' => ∃ k : Int, r = .returned (.int .u64 k) ∧ P r w') :
    Calls Tryd.prog 26 #[.pointer (some ⟨g, 0, none⟩), .agg (mvC m nA nc rA rc vA vc)] w fun r w' => ∃ k : Int, r = .returned (.int .u64 k) ∧ P r w' := by
  have VA := Lib.hid (fun W' (b : Below w.heap.size w W') => validT_any m nA nc rA rc vA vc W' (ht.below b) (fun _ => hg) ((hr.below b).grow b.size) hn hrl hl)
  obtain ⟨srv, met, code, f1, m1, aA, an, ac, bA, bn, bc, B1, f2, m2, eA, en, ec, hA, hn', hc, B2, oA, on_, oc⟩ := s
  obtain ⟨kind, id, al, name, prio, ord, sg, so, eg, eo, sm, code', reason, nn, ver, vers⟩ := m
  simp only at hmet hkind
  subst hmet
  subst hkind
  have CC := Lib.hid C
  rw [hval] at VA
  unfold mvC at *
  unfold SV.cells at *
  simp only at h VA CC ⊢
  obtain ⟨W, hW⟩ : ∃ W, W = w.alloc (.cells #[.int .u64 3, .int .u64 id, .int .u64 al, .slice nA name.length nc, .int .u8 prio, .int .u8 ord, .int .u64 sg, .int .u64 so, .int .u64 eg, .int .u64 eo, .bool sm, .int .u64 code', .slice rA reason.length rc, .int .u64 nn, .int .u64 ver, .slice vA vers.length vc] 31) := ⟨_, rfl⟩
  have bw := show Below w.heap.size w W by rw [hW]; exact (Below.refl _ _).alloc (Nat.le_refl _) _
  obtain ⟨gb, hgb⟩ : ∃ g, g = w.heap.size := ⟨_, rfl⟩
  have K0 := Lib.hid (show Blk W gb 31 #[.int .u64 3, .int .u64 id, .int .u64 al, .slice nA name.length nc, .int .u8 prio, .int .u8 ord, .int .u64 sg, .int .u64 so, .int .u64 eg, .int .u64 eo, .bool sm, .int .u64 code', .slice rA reason.length rc, .int .u64 nn, .int .u64 ver, .slice vA vers.length vc] by rw [hW, hgb]; exact Blk.new _ _ _)
  have H0 := Lib.hid (h.below bw h.lt)
  have B0 := Lib.hid bw
  have HW := Lib.hid hW
  have HGB := Lib.hid hgb
  clear hW bw h hgb ht hval hg hr hn hrl hl C
  go_enter Tryd.func26, Tryd.ntmps26
  go_upto_region 1 with (fail)
  rw [← HW.out, ← HGB.out]
  have k0 := K0.out.cell 0
  have k1 := K0.out.cell 1
  have k2 := K0.out.cell 2
  have k3 := K0.out.cell 3
  have k4 := K0.out.cell 4
  have k5 := K0.out.cell 5
  have k6 := K0.out.cell 6
  have k7 := K0.out.cell 7
  have k8 := K0.out.cell 8
  have k9 := K0.out.cell 9
  have k10 := K0.out.cell 10
  have k11 := K0.out.cell 11
  have k12 := K0.out.cell 12
  have k13 := K0.out.cell 13
  have k14 := K0.out.cell 14
  have k15 := K0.out.cell 15
  simp only [List.getElem?_toArray, List.getElem?_cons_zero, List.getElem?_cons_succ] at k0 k1 k2 k3 k4 k5 k6 k7 k8 k9 k10 k11 k12 k13 k14 k15
  have zb := K0.out.lt
  go_wp2_with fail
  refine (VA.out W B0.out).mono ?_
  rintro e w1 ⟨rfl, b1⟩
  clear k0 k1 k2 k3 k4 k5 k6 k7 k8 k9 k10 k11 k12 k13 k14 k15 zb
  have K1 := Lib.hid (K0.out.below b1 K0.out.lt)
  have H1 := Lib.hid (H0.out.below b1 H0.out.lt)
  have B1' := Lib.hid (B0.out.trans (b1.mono B0.out.size))
  clear b1 K0 H0 B0 VA
  have k0 := K1.out.cell 0
  have k1 := K1.out.cell 1
  have k2 := K1.out.cell 2
  have k3 := K1.out.cell 3
  have k4 := K1.out.cell 4
  have k5 := K1.out.cell 5
  have k6 := K1.out.cell 6
  have k7 := K1.out.cell 7
  have k8 := K1.out.cell 8
  have k9 := K1.out.cell 9
  have k10 := K1.out.cell 10
  have k11 := K1.out.cell 11
  have k12 := K1.out.cell 12
  have k13 := K1.out.cell 13
  have k14 := K1.out.cell 14
  have k15 := K1.out.cell 15
  simp only [List.getElem?_toArray, List.getElem?_cons_zero, List.getElem?_cons_succ] at k0 k1 k2 k3 k4 k5 k6 k7 k8 k9 k10 k11 k12 k13 k14 k15
  have zb := K1.out.lt
  have d1 := H1.out.cell 1
  simp only [List.getElem?_toArray, List.getElem?_cons_zero, List.getElem?_cons_succ] at d1
  have zg := H1.out.lt
  go_wp2_with fail
  refine (isRequest_any 3 w1).mono ?_
  rintro e w2 ⟨rfl, rfl⟩
  rw [show ((3 : Int) == 3 || (3 : Int) == 6 || (3 : Int) == 22) = true from rfl]
  go_wp2_with fail
  refine (CC.out w1 B1'.out).mono ?_
  rintro e w2 ⟨k, rfl, hP⟩
  have HP := Lib.hid hP
  clear hP
  go_wp2_with fail
  go_ret
  exact ⟨k, rfl, HP.out⟩
end Go.Proofs.YtdcjnkakibeigaaDoor
