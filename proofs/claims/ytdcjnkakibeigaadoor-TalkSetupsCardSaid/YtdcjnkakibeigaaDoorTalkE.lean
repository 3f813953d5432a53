/-
  talk: send, a message more to go out (made by mkTalkE.py).
-/
import Derived.Test.YtdcjnkakibeigaaDoorTalkD
namespace Go.Proofs.YtdcjnkakibeigaaDoor
open Go.RowKit
set_option linter.unusedVariables false
set_option linter.unusedSimpArgs false
/-- The cells of a session: a, b, ..: the own side's, the other side's; what is to go out. -/
structure SV where
  srv : Bool
  met : Bool
  code : Int
  f1 : Int
  m1 : Int
  aA : Option Addr
  an : Nat
  ac : Nat
  bA : Option Addr
  bn : Nat
  bc : Nat
  B1 : Nat
  f2 : Int
  m2 : Int
  eA : Option Addr
  en : Nat
  ec : Nat
  hA : Option Addr
  hn : Nat
  hc : Nat
  B2 : Nat
  oA : Option Addr
  on_ : Nat
  oc : Nat
def SV.cells (s : SV) : Array Value :=
  #[.bool s.srv, .bool s.met, .int .u64 s.code, .int .u64 s.f1, .int .u64 s.m1, .slice s.aA s.an s.ac, .slice s.bA s.bn s.bc, .map (some s.B1), .int .u64 s.f2, .int .u64 s.m2, .slice s.eA s.en s.ec, .slice s.hA s.hn s.hc, .map (some s.B2), .slice s.oA s.on_ s.oc]
theorem info_msgT3 : (Tryd.prog.info? 31).map (fun i => (i.zero, i.size, i.bytes)) = some (some (.agg #[.int .u64 0, .int .u64 0, .int .u64 0, .slice none 0 0, .int .u8 0, .int .u8 0, .int .u64 0, .int .u64 0, .int .u64 0, .int .u64 0, .bool false, .int .u64 0, .slice none 0 0, .int .u64 0, .int .u64 0, .slice none 0 0]), 16, 168) := by kernel_rfl
theorem reads_newT {w : World} {g : Nat} {E : TypeId} {cs : Array Value} (h : Blk w g E cs) (hs : 0 < cs.size) : Reads w w.heap.size cs.size (some ⟨g, 0, none⟩) 1 cs.toList := by
  refine ⟨by simp, fun _ => ⟨_, rfl, by have := h.lt; simpa using this, fun j u hu => ?_⟩⟩
  have h := h.cell j
  rw [show (⟨g, 0, none⟩ : Addr).add j = ⟨g, j, none⟩ by rw [add_none, Nat.zero_add], h]
  simpa using hu
set_option maxRecDepth 8000 in
set_option maxHeartbeats 3200000 in
theorem send_any (g base : Nat) (s : SV) (xs : List Value) (m : MV) (nA : Option Addr) (nc : Nat) (rA : Option Addr) (rc : Nat) (vA : Option Addr) (vc : Nat) (w : World) (h : Blk w g 66 s.cells) (ho : OwnV w base 31 16 s.oA s.oc s.on_ xs) (hb : base ≤ w.heap.size) (hl : s.on_ ≤ 1000000) :
    Calls Tryd.prog 33 #[.pointer (some ⟨g, 0, none⟩), .agg (mvC m nA nc rA rc vA vc)] w fun r w' => r = .returned (.tuple #[]) ∧
      ∃ A' c', Blk w' g 66 { s with oA := A', on_ := s.on_ + 1, oc := c' }.cells ∧ OwnV w' base 31 16 A' c' (s.on_ + 1) (xs ++ (mvC m nA nc rA rc vA vc).toList) ∧
        Frm w w' (fun b => b = g ∨ (Value.slice s.oA s.on_ s.oc).ownBlock = some b) ∧ ((Value.slice A' (s.on_ + 1) c').ownBlock = (Value.slice s.oA s.on_ s.oc).ownBlock ∨ ∃ k, (Value.slice A' (s.on_ + 1) c').ownBlock = some k ∧ w.heap.size ≤ k) := by
  obtain ⟨srv, met, code, f1, m1, aA, an, ac, bA, bn, bc, B1, f2, m2, eA, en, ec, hA, hn, hc, B2, oA, on_, oc⟩ := s
  obtain ⟨kind, id, al, name, prio, ord, sg, so, eg, eo, sm, code', reason, nn, ver, vers⟩ := m
  unfold mvC
  unfold SV.cells at *
  simp only at h ho hl ⊢
  obtain ⟨MC, hMC⟩ : ∃ MC : Array Value, MC = #[.int .u64 kind, .int .u64 id, .int .u64 al, .slice nA name.length nc, .int .u8 prio, .int .u8 ord, .int .u64 sg, .int .u64 so, .int .u64 eg, .int .u64 eo, .bool sm, .int .u64 code', .slice rA reason.length rc, .int .u64 nn, .int .u64 ver, .slice vA vers.length vc] := ⟨_, rfl⟩
  have hMz : MC.size = 16 := by rw [hMC]; rfl
  have hM1 : ∀ u ∈ MC.toList, u.oneCell' = true := by rw [hMC]; intro u hu; simp only [List.mem_cons, List.not_mem_nil, or_false] at hu; rcases hu with rfl | rfl | rfl | rfl | rfl | rfl | rfl | rfl | rfl | rfl | rfl | rfl | rfl | rfl | rfl | rfl <;> rfl
  obtain ⟨W, hW⟩ : ∃ W, W = w.alloc (.cells MC 31) := ⟨_, rfl⟩
  have bw := Lib.hid (show Below w.heap.size w W by rw [hW]; exact (Below.refl _ _).alloc (Nat.le_refl _) _)
  have K := Lib.hid (show Blk W w.heap.size 31 #[.int .u64 kind, .int .u64 id, .int .u64 al, .slice nA name.length nc, .int .u8 prio, .int .u8 ord, .int .u64 sg, .int .u64 so, .int .u64 eg, .int .u64 eo, .bool sm, .int .u64 code', .slice rA reason.length rc, .int .u64 nn, .int .u64 ver, .slice vA vers.length vc] by rw [hW, ← hMC]; exact Blk.new _ _ _)
  have H1 := Lib.hid (h.below bw.out h.lt)
  have O1 := Lib.hid (OwnV.below ho bw.out)
  obtain ⟨W2, hW2⟩ : ∃ W2, W2 = (W.alloc (.cells MC 31)).drew := ⟨_, rfl⟩
  have b2 : Below W.heap.size W W2 := by rw [hW2]; exact ((Below.refl _ _).alloc (Nat.le_refl _) _).drew
  have H2 := Lib.hid (H1.out.below b2 H1.out.lt)
  have O2 := Lib.hid (OwnV.below O1.out b2)
  have Q2 := Lib.hid (show Blk W2 W.heap.size 31 MC by rw [hW2]; exact (Blk.new W 31 MC).drew)
  have B2' := Lib.hid (bw.out.trans (b2.mono bw.out.size))
  have HMC := Lib.hid hMC
  have HW := Lib.hid (show W = w.alloc (.cells #[.int .u64 kind, .int .u64 id, .int .u64 al, .slice nA name.length nc, .int .u8 prio, .int .u8 ord, .int .u64 sg, .int .u64 so, .int .u64 eg, .int .u64 eo, .bool sm, .int .u64 code', .slice rA reason.length rc, .int .u64 nn, .int .u64 ver, .slice vA vers.length vc] 31) by rw [hW, hMC])
  have HW2 := Lib.hid (show W2 = (W.alloc (.cells #[.int .u64 kind, .int .u64 id, .int .u64 al, .slice nA name.length nc, .int .u8 prio, .int .u8 ord, .int .u64 sg, .int .u64 so, .int .u64 eg, .int .u64 eo, .bool sm, .int .u64 code', .slice rA reason.length rc, .int .u64 nn, .int .u64 ver, .slice vA vers.length vc] 31)).drew by rw [hW2, hMC])
  have HMz := Lib.hid hMz
  have HM1 := Lib.hid hM1
  have hbW : base ≤ W2.heap.size := by have := B2'.out.size; omega
  rw [← HMC.out]
  obtain ⟨MO, hMO⟩ : ∃ MO, MO = MC := ⟨_, rfl⟩
  clear hW hMC hW2 b2 hMz hM1 hMO MO h ho
  go_enter Tryd.func33, Tryd.ntmps33
  go_upto_region 1 with (fail)
  rw [HMC.out, ← HW.out]
  have d13 := H1.out.cell 13
  have f13 := H1.out.frozen 13
  simp only [List.getElem?_toArray, List.getElem?_cons_zero, List.getElem?_cons_succ] at d13
  have zg := H1.out.lt
  have k0 := K.out.cell 0
  have k1 := K.out.cell 1
  have k2 := K.out.cell 2
  have k3 := K.out.cell 3
  have k4 := K.out.cell 4
  have k5 := K.out.cell 5
  have k6 := K.out.cell 6
  have k7 := K.out.cell 7
  have k8 := K.out.cell 8
  have k9 := K.out.cell 9
  have k10 := K.out.cell 10
  have k11 := K.out.cell 11
  have k12 := K.out.cell 12
  have k13 := K.out.cell 13
  have k14 := K.out.cell 14
  have k15 := K.out.cell 15
  simp only [List.getElem?_toArray, List.getElem?_cons_zero, List.getElem?_cons_succ] at k0 k1 k2 k3 k4 k5 k6 k7 k8 k9 k10 k11 k12 k13 k14 k15
  have zk := K.out.lt
  go_region_law (rw [← HW2.out]; refine step_appV rfl (.tmp 8) (.tmp 10) 42 31 16 168 (.agg #[.int .u64 0, .int .u64 0, .int .u64 0, .slice none 0 0, .int .u8 0, .int .u8 0, .int .u64 0, .int .u64 0, .int .u64 0, .int .u64 0, .bool false, .int .u64 0, .slice none 0 0, .int .u64 0, .int .u64 0, .slice none 0 0]) rfl Tryd.underlying42 info_msgT3 rfl (by omega) base (n := on_) (m := 1) (xs := xs) (news := MC.toList) (d := 1) rfl rfl O2.out (by have := reads_newT Q2.out (by rw [HMz.out]; omega); rwa [HMz.out] at this) HM1.out (by unfold maxLen; omega) (by omega) hbW ?_; intro A2 c2 w5 hown hg hb5 hrow; have k5 := H2.out.grown hg (fun e => OwnV.other O2.out (by decide) g _ H2.out e.symm); have e5 := k5.cell 13; have f5 := k5.frozen 13; have z5 := k5.lt)
  all_goals
    have hown2 := hown
    rw [HMC.out] at hown2
    refine bodyPost_end (v := .tuple #[]) (results_none (by rfl) _ _ _) (by rfl) ⟨rfl, A2, c2, k5.set_ 13 (.slice A2 (on_ + 1) c2), OwnV.grownT hown2 k5 (by decide) (only_set (only_refl w5 (some g)) (p := ⟨g, 13, none⟩) rfl _), ?_, ?_⟩
    · exact ((Frm.of_below B2'.out).grown hg (fun r hr => .inr (.inr hr))).set (p := ⟨g, 13, none⟩) (.inr (.inl rfl)) _
    · rcases hrow with e | e
      · exact .inl e
      · exact .inr ⟨_, e, B2'.out.size⟩
end Go.Proofs.YtdcjnkakibeigaaDoor
