/-
  The item reader's keep and settle, and Put's deferred function.
-/
import Derived.Test.YtpaglcojbcndoaaDoorItemP
namespace Go.Proofs.YtpaglcojbcndoaaDoor
open Go.RowKit
set_option linter.unusedVariables false
set_option linter.unusedSimpArgs false
/-- The reader at gr; what it holds is a row of its own. -/
structure RIs (w : World) (gr base : Nat) (s : IRd) : Prop where
  ex : ∃ A c, RB w gr s A c ∧ Own w base A c s.held
theorem RIs.lt {w : World} {gr base : Nat} {s : IRd} (h : RIs w gr base s) : gr < w.heap.size := by
  obtain ⟨A, c, k, _⟩ := h.ex
  exact k.lt
/-- What is left of the bytes that the reader holds: all of them (the slice itself), or fewer. -/
structure LeftOf (w : World) (gr : Nat) (s : IRd) (A : Option Addr) (c : Nat) (LA : Option Addr) (lc : Nat) (left : List Int) : Prop where
  rd : Rd w LA left
  le : left.length ≤ s.held.length
  small : s.held.length ≤ 70368744177664
  nil : LA = none → left = [] ∧ lc = 0
  same : left.length = s.held.length → LA = A ∧ lc = c ∧ left = s.held
/-- What keep and settle leave: the reader, its own row apart from what is at or above N .. or new. -/
structure Kept (w w' : World) (gr base : Nat) (A : Option Addr) (s' : IRd) : Prop where
  ex : ∃ A' c', RB w' gr s' A' c' ∧ Own w' base A' c' s'.held ∧ (A' = A ∨ A' = none ∨ ∃ k, A' = some ⟨k, 0, none⟩ ∧ w.heap.size ≤ k)
  fr : Frm w w' (fun b => b = gr)
theorem keep_any (gr base : Nat) (s : IRd) (A : Option Addr) (c : Nat) (LA : Option Addr) (lc : Nat) (left : List Int) (w : World) (hr : RB w gr s A c) (ho : Own w base A c s.held) (hl : LeftOf w gr s A c LA lc left) (hb : base ≤ w.heap.size) :
    Calls Tryd.prog 54 #[.pointer (some ⟨gr, 0, none⟩), .slice LA left.length lc] w fun r w' => r = .returned (.tuple #[]) ∧ Kept w w' gr base A { s with held := left } := by
  obtain ⟨⟨fe, hid, hgr, hpr⟩, bg, lg, lo, sm, ov, held⟩ := s
  have HR := Lib.hid hr
  have HO := Lib.hid ho
  have HL := Lib.hid hl
  have r9 := hr.cell 9
  have rz := hr.lt
  have rf := fun i => hr.frozen i
  simp only [irdC, List.getElem?_toArray, List.getElem?_cons_zero, List.getElem?_cons_succ] at r9
  have hle : left.length ≤ held.length := hl.le
  by_cases hlt : left.length < held.length
  · have CL := Lib.hid (clone_any LA lc left w hl.rd (by have := hl.small; simp only at this; omega) hl.nil)
    have hd : decide ((left.length : Int) < (held.length : Int)) = true := by simp; omega
    have HB := Lib.hid hb
    clear hr ho hl hle hb
    go_enter Tryd.func54, Tryd.ntmps54
    go_wp2_with fail
    refine CL.out.mono ?_
    rintro e w1 ⟨A1, c1, rfl, o1, b1⟩
    have K1 := HR.out.below b1 HR.out.lt
    have HK1 := Lib.hid K1
    have O1 := Lib.hid o1
    have B1 := Lib.hid b1
    have q9 := K1.cell 9
    have qz := K1.lt
    have qf := fun i => K1.frozen i
    simp only [irdC, List.getElem?_toArray, List.getElem?_cons_zero, List.getElem?_cons_succ] at q9
    clear K1 o1 b1 CL r9 rz rf
    go_wp2_with fail
    refine bodyPost_end (v := .tuple #[]) (results_none (by rfl) _ _ _) (by rfl) ⟨rfl, ⟨A1, c1, ?_, ?_, ?_⟩, ?_⟩
    · exact HK1.out.set_ 9 (.slice A1 left.length c1)
    · have hgs := only_set (only_refl w1 (some gr)) (p := ⟨gr, 9, none⟩) rfl (.slice A1 left.length c1)
      refine Own.base_leI (OwnV.apart (show OwnV w1 w.heap.size 5 1 A1 c1 left.length (U8 left) from O1.out) hgs (fun k hk e => ?_)) HB.out
      have := OwnV.row_ge O1.out k hk
      have := HR.out.lt
      injection e with e
      omega
    · rcases OwnV.row_is (show OwnV w1 w.heap.size 5 1 A1 c1 left.length (U8 left) from O1.out) with ⟨hA, _⟩ | ⟨g, cur, hA, hg, hb, _⟩
      · exact .inr (.inl hA)
      · exact .inr (.inr ⟨g, hA, hg⟩)
    · exact Frm.set (S := fun b => b = gr) (Frm.of_below B1.out) (p := ⟨gr, 9, none⟩) (.inr rfl) _
  · have hE : left.length = held.length := by omega
    obtain ⟨e1, e2, e3⟩ := hl.same hE
    simp only at e3
    subst e1 e2 e3
    have hd : decide ((left.length : Int) < (left.length : Int)) = false := by simp
    clear hr ho hl hle hb hlt
    go_enter Tryd.func54, Tryd.ntmps54
    go_wp2_with fail
    have hgs := only_set (only_refl w (some gr)) (p := ⟨gr, 9, none⟩) rfl (.slice LA left.length lc)
    refine bodyPost_end (v := .tuple #[]) (results_none (by rfl) _ _ _) (by rfl) ⟨rfl, ⟨LA, lc, ?_, ?_, .inl rfl⟩, ?_⟩
    · exact HR.out.set_ 9 (.slice LA left.length lc)
    · refine OwnV.apart (show OwnV w base 5 1 LA lc left.length (U8 left) from HO.out) hgs (fun k hk e => ?_)
      injection e with e
      rcases OwnV.row_is (show OwnV w base 5 1 LA lc left.length (U8 left) from HO.out) with ⟨hA, _⟩ | ⟨g, cur, hA, hg, hb, _⟩
      · rw [hA] at hk; cases hk
      · rw [hA] at hk
        simp [Value.ownBlock] at hk
        have := HR.out.ne_ hb (by decide)
        omega
    · exact Frm.set (S := fun b => b = gr) (Frm.refl _ _) (p := ⟨gr, 9, none⟩) (.inr rfl) _
theorem settle_any (gr base : Nat) (s : IRd) (A : Option Addr) (c : Nat) (LA : Option Addr) (lc : Nat) (left : List Int) (e : Int) (en : Bool) (w : World) (hr : RB w gr s A c) (ho : Own w base A c s.held) (hl : LeftOf w gr s A c LA lc left) (hb : base ≤ w.heap.size) :
    Calls Tryd.prog 37 #[.pointer (some ⟨gr, 0, none⟩), .slice LA left.length lc, .int .i64 e, .bool en] w fun r w' => r = .returned (.int .i64 (settleE e en)) ∧ Kept w w' gr base A (settleS s left e en) := by
  have HR := Lib.hid hr
  have r8 := hr.cell 8
  have r9 := hr.cell 9
  have rz := hr.lt
  have rf := fun i => hr.frozen i
  simp only [irdC, List.getElem?_toArray, List.getElem?_cons_zero, List.getElem?_cons_succ] at r8 r9
  have END : ∀ (v : Bool), Kept w ((w.setCell ⟨gr, 8, none⟩ (.bool v)).setCell ⟨gr, 9, none⟩ (.slice none 0 0)) gr base A { s with over := v, held := [] } := fun v =>
    ⟨⟨none, 0, (hr.set_ 8 (.bool v)).set_ 9 (.slice none 0 0), Own.nil _ _, .inr (.inl rfl)⟩, Frm.set (S := fun b => b = gr) (Frm.set (S := fun b => b = gr) (Frm.refl w _) (p := ⟨gr, 8, none⟩) (.inr rfl) _) (p := ⟨gr, 9, none⟩) (.inr rfl) _⟩
  have HEND := Lib.hid END
  clear END
  by_cases h2 : e = 2
  · subst h2
    cases en with
    | false =>
      have CK := Lib.hid (keep_any gr base s A c LA lc left w hr ho hl hb)
      have eE : settleE 2 false = 0 := rfl
      have eS : settleS s left 2 false = { s with held := left } := by unfold settleS; rw [if_pos ⟨rfl, rfl⟩]
      rw [eE, eS]
      clear hr ho hl hb eE eS
      go_enter Tryd.func37, Tryd.ntmps37
      go_wp2_with fail
      refine CK.out.mono ?_
      rintro e w1 ⟨rfl, k1⟩
      have K1 := Lib.hid k1
      clear k1 CK
      go_wp2_with fail
      go_ret
      exact ⟨rfl, K1.out⟩
    | true =>
      have eE : settleE 2 true = 4 := rfl
      have eS : settleS s left 2 true = { s with over := true, held := [] } := by unfold settleS; rw [if_neg (by simp)]; rfl
      rw [eE, eS]
      clear hr ho hl hb eE eS
      go_enter Tryd.func37, Tryd.ntmps37
      go_wp2_with fail
      go_ret
      exact ⟨rfl, HEND.out true⟩
  · have hz : (e == 2) = false := by simpa using h2
    have eE : settleE e en = e := by unfold settleE; rw [if_neg h2]
    have eS : settleS s left e en = { s with over := en || decide (e ≠ 0), held := [] } := by unfold settleS; rw [if_neg (fun h => h2 h.1), eE]
    rw [eE, eS]
    clear hr ho hl hb eE eS
    cases en with
    | true =>
      go_enter Tryd.func37, Tryd.ntmps37
      go_wp2_with fail
      go_ret
      exact ⟨rfl, HEND.out true⟩
    | false =>
      by_cases h0 : e = 0
      · subst h0
        go_enter Tryd.func37, Tryd.ntmps37
        go_wp2_with fail
        go_ret
        exact ⟨rfl, HEND.out false⟩
      · have hq : (e != 0) = true := by simpa using h0
        have hd : (false || decide (e ≠ 0)) = true := by simpa using h0
        rw [hd]
        clear hd
        go_enter Tryd.func37, Tryd.ntmps37
        go_wp2_with fail
        go_ret
        exact ⟨rfl, HEND.out true⟩
/-- Put's boxes, as its deferred function meets them. -/
structure PBox (w : World) (ge gq gl gn gr : Nat) (ev : Int) (LA : Option Addr) (n lc : Nat) (en : Bool) : Prop where
  e : Blk w ge 32 #[.int .i64 ev]
  q : Blk w gq 45 #[.pointer (some ⟨gr, 0, none⟩)]
  l : Blk w gl 25 #[.slice LA n lc]
  n : Blk w gn 4 #[.bool en]
/-- What it leaves. -/
def PDone (w w' : World) (ge gr base : Nat) (A : Option Addr) (s : IRd) (left : List Int) (ev : Int) (en : Bool) : Prop :=
  ∃ w0 w1, (w0 = w ∨ ∃ x, w0 = w.setCell ⟨ge, 0, none⟩ (.int .i64 x)) ∧ Kept w0 w1 gr base A (settleS s left ev en) ∧ w' = w1.setCell ⟨ge, 0, none⟩ (.int .i64 (settleE ev en))
theorem RB.ne_e {w : World} {gr ge : Nat} {s : IRd} {A : Option Addr} {c : Nat} {cs : Array Value} (h : RB w gr s A c) (k : Blk w ge 32 cs) : gr ≠ ge := h.ne_ k (by decide)
set_option maxHeartbeats 4000000 in
set_option maxRecDepth 100000 in
theorem catchP_idle (ge gq gl gn gr base : Nat) (s : IRd) (A : Option Addr) (c : Nat) (LA : Option Addr) (lc : Nat) (left : List Int) (ev : Int) (en : Bool) (w : World) (hr : RB w gr s A c) (ho : Own w base A c s.held) (hl : LeftOf w gr s A c LA lc left) (hb : base ≤ w.heap.size) (hx : PBox w ge gq gl gn gr ev LA left.length lc en) :
    CallsD Tryd.prog 36 #[.pointer (some ⟨ge, 0, none⟩), .pointer (some ⟨gq, 0, none⟩), .pointer (some ⟨gl, 0, none⟩), .pointer (some ⟨gn, 0, none⟩)] .returning w fun e u' w' => e = .returned (.tuple #[]) ∧ u' = .returning ∧ PDone w w' ge gr base A s left ev en := by
  have CS := Lib.hid (settle_any gr base s A c LA lc left ev en w hr ho hl hb)
  have HE := Lib.hid hx.e
  have HNE := Lib.hid (hr.ne_e hx.e)
  have ce := hx.e.cell 0
  have ze := hx.e.lt
  have fe := fun i => hx.e.frozen i
  have cq := hx.q.cell 0
  have zq := hx.q.lt
  have cl := hx.l.cell 0
  have zl := hx.l.lt
  have cn := hx.n.cell 0
  have zn := hx.n.lt
  simp only [List.getElem?_toArray, List.getElem?_cons_zero] at ce cq cl cn
  clear hr ho hl hb hx
  refine callsD_of_wpS Tryd.func36 rfl fun c₀ cs hu => ?_
  apply wpS_seq
  apply wpS_seq
  apply wpS_region
  simp [wpOpsS, go_sem, recoverD, hu, Tryd.ntmps36, Exit.thenS]
  rw [show (#[Value.pointer (some { block := ge, off := 0 }), Value.pointer (some { block := gq, off := 0 }), Value.pointer (some { block := gl, off := 0 }), Value.pointer (some { block := gn, off := 0 })] ++ (Array.replicate 15 undef).setIfInBounds 3 Value.nilIface) = #[Value.pointer (some { block := ge, off := 0 }), Value.pointer (some { block := gq, off := 0 }), Value.pointer (some { block := gl, off := 0 }), Value.pointer (some { block := gn, off := 0 }), undef, undef, undef, Value.nilIface, undef, undef, undef, undef, undef, undef, undef, undef, undef, undef, undef] from rfl]
  refine wpS_of_wp ?_
  go_wp2_with fail
  simp only [Exit.thenS]
  refine wpS_of_wp ?_
  go_wp2_with fail
  refine CS.out.mono ?_
  rintro e w1 ⟨rfl, kp⟩
  have ke := kp.fr.keep HE.out (fun h => HNE.out h.symm)
  have ce2 := ke.cell 0
  have ze2 := ke.lt
  have fe2 := fun i => ke.frozen i
  simp only [List.getElem?_toArray, List.getElem?_cons_zero] at ce2
  have KP := Lib.hid kp
  clear ke kp CS ce cq cl cn ze zq zl zn fe
  go_wp2_with fail
  exact ⟨rfl, _, rfl, .tuple #[], results_none (by rfl) _ _ _, rfl, hu, w, w1, .inl rfl, KP.out, rfl⟩
set_option maxHeartbeats 4000000 in
set_option maxRecDepth 100000 in
theorem catchP_pan (ge gq gl gn gr base : Nat) (s : IRd) (A : Option Addr) (c : Nat) (LA : Option Addr) (lc : Nat) (left : List Int) (ev0 ev : Int) (older : List PanicEntry) (en : Bool) (w : World) (hr : RB w gr s A c) (ho : Own w base A c s.held) (hl : LeftOf w gr s A c LA lc left) (hb : base ≤ w.heap.size) (hx : PBox w ge gq gl gn gr ev0 LA left.length lc en) (hge : ∀ a, LA = some a → a.block ≠ ge) (hgb : base ≤ ge → ∀ k, (Value.slice A s.held.length c).ownBlock = some k → k ≠ ge) :
    CallsD Tryd.prog 36 #[.pointer (some ⟨ge, 0, none⟩), .pointer (some ⟨gq, 0, none⟩), .pointer (some ⟨gl, 0, none⟩), .pointer (some ⟨gn, 0, none⟩)] (.panicking ({ v := .iface 32 (.int .i64 ev), recovered := false } :: older)) w fun e u' w' => e = .returned (.tuple #[]) ∧ u' = .panicking ({ v := .iface 32 (.int .i64 ev), recovered := true } :: older) ∧ PDone w w' ge gr base A s left ev en := by
  have HNE := Lib.hid (hr.ne_e hx.e)
  have ce := hx.e.cell 0
  have ze := hx.e.lt
  have fe := fun i => hx.e.frozen i
  have cq := hx.q.cell 0
  have zq := hx.q.lt
  have cl := hx.l.cell 0
  have zl := hx.l.lt
  have cn := hx.n.cell 0
  have zn := hx.n.lt
  simp only [List.getElem?_toArray, List.getElem?_cons_zero] at ce cq cl cn
  have hgs := only_set (only_refl w (some ge)) (p := ⟨ge, 0, none⟩) rfl (.int .i64 ev)
  have ne1 := hr.ne_e hx.e
  have ne2 : gq ≠ ge := hx.q.ne_ hx.e (by decide)
  have ne3 : gl ≠ ge := hx.l.ne_ hx.e (by decide)
  have ne4 : gn ≠ ge := hx.n.ne_ hx.e (by decide)
  obtain ⟨W, hW⟩ : ∃ v, v = w.setCell ⟨ge, 0, none⟩ (.int .i64 ev) := ⟨_, rfl⟩
  have KE := hx.e.set_ 0 (.int .i64 ev)
  rw [← hW] at hgs KE
  have hoW : Own W base A c s.held := OwnV.apart (show OwnV w base 5 1 A c s.held.length (U8 s.held) from ho) hgs (fun k hk e => by
    injection e with e
    exact hgb (by have := OwnV.row_ge ho k hk; omega) k hk e.symm)
  have hrW : RB W gr s A c := hr.grown hgs (fun e => by injection e with e; exact ne1 e)
  have hlW : LeftOf W gr s A c LA lc left := ⟨⟨hl.rd.1, fun hn => by
    obtain ⟨ad, e1, hlt, hc⟩ := hl.rd.2 hn
    refine ⟨ad, e1, Nat.lt_of_lt_of_le hlt hgs.size, fun j u' hu' => ?_⟩
    rw [← hc j u' hu']
    exact World.cell?_of_block (a := ad.add j) (hgs.block (ad.add j).block (by rw [block_of_add]; exact hlt) (by rw [block_of_add]; exact fun h => by injection h with h; exact hge ad e1 h))⟩, hl.le, hl.small, hl.nil, hl.same⟩
  have CS := Lib.hid (settle_any gr base s A c LA lc left ev en W hrW hoW hlW (Nat.le_trans hb hgs.size))
  have HE := Lib.hid KE
  have cqW := (hx.q.grown hgs (fun e => by injection e with e; exact ne2 e)).cell 0
  have zqW := (hx.q.grown hgs (fun e => by injection e with e; exact ne2 e)).lt
  have clW := (hx.l.grown hgs (fun e => by injection e with e; exact ne3 e)).cell 0
  have zlW := (hx.l.grown hgs (fun e => by injection e with e; exact ne3 e)).lt
  have cnW := (hx.n.grown hgs (fun e => by injection e with e; exact ne4 e)).cell 0
  have znW := (hx.n.grown hgs (fun e => by injection e with e; exact ne4 e)).lt
  have ceW := KE.cell 0
  have zeW := KE.lt
  simp only [List.getElem?_toArray, List.getElem?_cons_zero] at cqW clW cnW
  simp at ceW
  have HW := Lib.hid hW
  clear hr ho hl hb hx hrW hoW hlW ne1 ne2 ne3 ne4 hgs KE hW hge hgb cq cl cn zq zl zn
  have hta := fun w => run_assert_errno ev 20 w
  refine callsD_of_wpS Tryd.func36 rfl fun c₀ cs hu => ?_
  apply wpS_seq
  apply wpS_seq
  apply wpS_region
  simp [wpOpsS, go_sem, recoverD, hu, Tryd.ntmps36, Exit.thenS]
  rw [show (#[Value.pointer (some { block := ge, off := 0 }), Value.pointer (some { block := gq, off := 0 }), Value.pointer (some { block := gl, off := 0 }), Value.pointer (some { block := gn, off := 0 })] ++ (Array.replicate 15 undef).setIfInBounds 3 (Value.iface 32 (Value.int IntKind.i64 ev))) = #[Value.pointer (some { block := ge, off := 0 }), Value.pointer (some { block := gq, off := 0 }), Value.pointer (some { block := gl, off := 0 }), Value.pointer (some { block := gn, off := 0 }), undef, undef, undef, Value.iface 32 (Value.int IntKind.i64 ev), undef, undef, undef, undef, undef, undef, undef, undef, undef, undef, undef] from rfl]
  refine wpS_of_wp ?_
  go_wp2_with fail
  simp only [Exit.thenS]
  refine wpS_of_wp ?_
  rw [← HW.out]
  clear ce ze fe
  go_wp2_with fail
  refine CS.out.mono ?_
  rintro e w1 ⟨rfl, kp⟩
  have ke := kp.fr.keep HE.out (fun h => HNE.out h.symm)
  have ce2 := ke.cell 0
  have ze2 := ke.lt
  have fe2 := fun i => ke.frozen i
  simp at ce2
  have KP := Lib.hid kp
  clear ke kp CS ceW cqW clW cnW zeW zqW zlW znW
  go_wp2_with fail
  exact ⟨rfl, _, rfl, .tuple #[], results_none (by rfl) _ _ _, rfl, rfl, W, w1, .inr ⟨ev, HW.out⟩, KP.out, rfl⟩
end Go.Proofs.YtpaglcojbcndoaaDoor
