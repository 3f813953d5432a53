/-
  The item reader's Put (made by mkItemR2.py).
-/
import Derived.Test.YtpaglcojbcndoaaDoorItemR
import Derived.Deep.LoopGhost
namespace Go.Proofs.YtpaglcojbcndoaaDoor
open Go.RowKit
set_option linter.unusedVariables false
set_option linter.unusedSimpArgs false
theorem step_appP {ops : Array Oper} {o : Oper} {a : Act} {w : World} {K : Act → World → Prop} {Q : Exit → Act → World → Prop} (hgd : o.guard = none) (s x : Operand)
    (ho : o.op = .call { callee := .builtin .append, args := #[s, x], argTypes := #[25, 25] })
    (base : Nat) {c d : Nat} {A B : Option Addr} {l news : List Int} (X : List Int) (hX : X = l ++ news) (hs : a.eval s = .slice A l.length c) (hx : a.eval x = .slice B news.length d) (hown : Own w base A c l) (hr : Rd w B news)
    (hlen : l.length + news.length ≤ 70368744177664) (hbase : base ≤ w.heap.size)
    (h : ∀ A' c' w', Own w' base A' c' X → w.grownBy w' (Value.slice A l.length c).ownBlock → (((Value.slice A' X.length c').ownBlock = (Value.slice A l.length c).ownBlock) ∨ ((Value.slice A' X.length c').ownBlock = some w.heap.size)) → K (a.put o.dst (.slice A' X.length c')) w') :
    if Region.wanted o (yielded ops a.tmps) = true then Oper.wp Tryd.prog o a w K Q else K (a.put o.dst undef) w := by
  subst hX
  refine step_appV hgd s x 25 5 1 1 (.int .u8 0) ho Tryd.underlying25 info_u8 rfl (by omega) base hs hx hown hr (by intro u hu; simp only [U8, List.mem_map] at hu; obtain ⟨x, _, rfl⟩ := hu; rfl) (by unfold maxLen; omega) (by omega) hbase ?_
  intro A' c' w' h1 h2 h3 h4
  have := h A' c' w' (by unfold Own; rw [show U8 (l ++ news) = U8 l ++ U8 news by simp [U8], List.length_append]; exact h1) h2 (by rw [List.length_append]; exact h4)
  rwa [List.length_append] at this
theorem OwnV.capI {w : World} {base c : Nat} {A : Option Addr} {l : List Int} (h : Own w base A c l) : l.length ≤ c ∧ c ≤ 9223372036854775807 := by
  rcases h.2 with ⟨a1, a2⟩ | ⟨g, cap, cur, hv, _, _, h3, h4, _⟩
  · injection a1 with e1 e2 e3
    omega
  · injection hv with e1 e2 e3
    unfold maxLen at h4
    omega
theorem start_PI {w W u0 u1 : World} {gr base N c c1 : Nat} {A A1 : Option Addr} {R : Option Nat} {held all : List Int} {en : Bool} {sI s0 : IRd}
    (rb : RB u1 gr s0 A c) (ow : Own u1 base A1 c1 all) (hn : (Value.slice A1 all.length c1).ownBlock = (Value.slice A held.length c).ownBlock ∨ (Value.slice A1 all.length c1).ownBlock = some u0.heap.size) (f1 : Frm W u1 (fun b => b = gr ∨ R = some b))
    (hbx : Blk W w.heap.size 45 #[.pointer (some ⟨gr, 0, none⟩)] ∧ Blk W (w.heap.size + 1) 4 #[.bool en] ∧ ¬ (w.heap.size = gr ∨ R = some w.heap.size) ∧ ¬ (w.heap.size + 1 = gr ∨ R = some (w.heap.size + 1))) (hwb : Below w.heap.size w W) (hzw : W.heap.size = w.heap.size + 3) (hz1 : u0.heap.size ≤ u1.heap.size) (hu0 : u0.heap.size = W.heap.size)
    (ke : Blk u1 (w.heap.size + 2) 32 #[.int .i64 0]) (hsI : sI = { s0 with held := all }) (hba : Bytes all) (hb : base ≤ w.heap.size) (hN : N = all.length + 5) (hgr : gr < w.heap.size) (hla : all.length ≤ 70368744177664) :
    ∃ G, (∃ k : Unit, True) ∧ RB (u1.setCell ⟨gr, 9, none⟩ (.slice A1 all.length c1)) gr sI A1 c1 ∧ Blk (u1.setCell ⟨gr, 9, none⟩ (.slice A1 all.length c1)) w.heap.size 45 #[.pointer (some ⟨gr, 0, none⟩)] ∧
      PI w ((u1.setCell ⟨gr, 9, none⟩ (.slice A1 all.length c1)).alloc (.cells #[.slice A1 all.length c1] 25)) gr G base (u1.setCell ⟨gr, 9, none⟩ (.slice A1 all.length c1)).heap.size N N A1 c1 R all en sI sI all A1 c1 none 0 [] := by
  obtain ⟨kq, kn, nq, nn⟩ := hbx
  have gs := only_set (only_refl u1 (some gr)) (p := ⟨gr, 9, none⟩) rfl (.slice A1 all.length c1)
  have f2 : Frm W (u1.setCell ⟨gr, 9, none⟩ (.slice A1 all.length c1)) (fun b => b = gr ∨ R = some b) := f1.set (p := ⟨gr, 9, none⟩) (.inr (.inl rfl)) _
  have rb2 : RB (u1.setCell ⟨gr, 9, none⟩ (.slice A1 all.length c1)) gr sI A1 c1 := by rw [hsI]; exact rb.set_ 9 (.slice A1 all.length c1)
  have ow2 : Own (u1.setCell ⟨gr, 9, none⟩ (.slice A1 all.length c1)) base A1 c1 all := OwnV.apart (show OwnV u1 base 5 1 A1 c1 all.length (U8 all) from ow) gs (fun k hk e => by injection e with e; exact own_ne ow rb (by decide) k hk e.symm)
  have ke2 := ke.grown gs (fun e => by injection e with e; omega)
  have hs2 : (u1.setCell ⟨gr, 9, none⟩ (.slice A1 all.length c1)).heap.size = u1.heap.size := by simp [World.setCell]
  obtain ⟨u2, hu2⟩ : ∃ v, v = u1.setCell ⟨gr, 9, none⟩ (.slice A1 all.length c1) := ⟨_, rfl⟩
  rw [← hu2] at f2 rb2 ow2 ke2 hs2 ⊢
  have kq2 := f2.keep kq nq
  have kn2 := f2.keep kn nn
  have hcap := OwnV.capI ow2
  obtain ⟨G, hG1, hG2⟩ : ∃ G, (gr ≠ G ∧ G ≠ w.heap.size + 2 ∧ G < u2.heap.size) ∧ ∀ ad, A1 = some ad → ad.block = G := by
    rcases OwnV.row_is (show OwnV u2 base 5 1 A1 c1 all.length (U8 all) from ow2) with ⟨hA, _⟩ | ⟨g, cur, hA, _, hb2, _⟩
    · exact ⟨w.heap.size, ⟨by omega, by omega, by omega⟩, fun ad e => by rw [hA] at e; cases e⟩
    · exact ⟨g, ⟨rb2.ne_ hb2 (by decide), fun e => ke2.ne_ hb2 (by decide) e.symm, hb2.lt⟩, fun ad e => by rw [hA] at e; injection e with e; subst e; rfl⟩
  refine ⟨G, ⟨(), trivial⟩, rb2, kq2, ?_⟩
  have bs : Below u2.heap.size u2 (u2.alloc (.cells #[.slice A1 all.length c1] 25)) := (Below.refl _ _).alloc (Nat.le_refl _) _
  have kl : Blk (u2.alloc (.cells #[.slice A1 all.length c1] 25)) u2.heap.size 25 #[.slice A1 all.length c1] := Blk.new _ _ _
  have hlt : u2.heap.size < (u2.alloc (.cells #[.slice A1 all.length c1] 25)).heap.size := kl.lt
  have SL0 : SlBO G u2 u2.heap.size A1 c1 all := ⟨OwnV.reads ow2, hcap.1, hcap.2, (fun e => by
    rcases ow2.2 with ⟨h1, _⟩ | ⟨g, cap, cur, hv, _⟩
    · injection h1
    · injection hv with hA; rw [hA] at e; cases e), hG2⟩
  have SL := SL0.keep (fun q hq => bs.cell (p := q) hq)
  have hsh : sI.held = all := by rw [hsI]
  refine ⟨rfl, by rw [hN]; split <;> omega, hsh, ⟨ke2.below bs ke2.lt, kq2.below bs kq2.lt, kl, kn2.below bs kn2.lt⟩, rb2.below bs rb2.lt, OwnV.below ow2 bs, ⟨Reads.more SL.rd (by omega), by rw [hsh]; exact Nat.le_refl _, by rw [hsh]; exact hla, fun e => ⟨?_, SL.nil.1 e⟩, fun _ => ⟨rfl, rfl, hsh.symm⟩⟩, SL, hG1, hba, OwnF.nil _ _, fun x hx => (by simp at hx), ?_, by omega, hlt, fun k hk => ?_, hgr, hb⟩
  · have := SL.nil.1 e
    have := SL.le
    exact List.eq_nil_of_length_eq_zero (by omega)
  · exact ⟨bs.os.trans (f2.os.trans hwb.os), bs.tape.trans (f2.tape.trans hwb.tape), bs.output.trans (f2.output.trans hwb.output), by have := bs.size; have := f2.size; omega, fun b hb hs => (bs.block b (by have := f2.size; omega)).trans ((f2.blk b (by omega) hs).trans (hwb.block b hb))⟩
  · rw [← hG2 _ hk] at hG1
    exact hG1.2.2
theorem frm_call {wr w4 w5 : World} {gr g : Nat} (b4 : Below wr.heap.size wr w4) (hg : wr.heap.size ≤ g) (f : Frm w4 w5 (fun b => b = g ∨ b = gr)) : Frm wr w5 (fun b => b = gr) :=
  ⟨f.os.trans b4.os, f.tape.trans b4.tape, f.output.trans b4.output, Nat.le_trans b4.size f.size, fun b hb hs => (f.blk b (Nat.lt_of_lt_of_le hb b4.size) (fun e => e.elim (fun e => by omega) hs)).trans (b4.block b hb)⟩
theorem info_objA : (Tryd.prog.info? 27).map (fun i => (i.zero, i.size, i.bytes)) = some (some (.agg zeroO), 5, 48) := by kernel_rfl
theorem wpList_appO {ops : Array Oper} {rest : List Oper} {o : Oper} {a : Act} {w : World} {Q : Exit → Act → World → Prop} (hgd : o.guard = none) (s x' : Operand)
    (ho : o.op = .call { callee := .builtin .append, args := #[s, x'], argTypes := #[38, 38] })
    (base : Nat) {c d : Nat} {A B : Option Addr} {rs : List RO} {x : RO} (hs : a.eval s = .slice A rs.length c) (hx : a.eval x' = .slice B 1 d) (hown : OwnF ROC 5 27 w base A c rs) (hr : RdF ROC 5 w B [x])
    (hlen : rs.length ≤ 1000000000000) (hbase : base ≤ w.heap.size)
    (h : ∀ A' c' w', OwnF ROC 5 27 w' base A' c' (rs ++ [x]) → w.grownBy w' (Value.slice A rs.length c).ownBlock → wpList Tryd.prog ops Q rest (a.put o.dst (.slice A' (rs ++ [x]).length c')) w') : wpList Tryd.prog ops Q (o :: rest) a w := by
  refine wpList_appV2 hgd s x' 38 27 5 48 (.agg zeroO) ho Tryd.underlying38 info_objA rfl (by omega) base hs hx hown hr (by intro u hu; rw [FlV_one] at hu; simp [ROC, ovC] at hu; rcases hu with rfl | rfl | rfl | rfl | rfl <;> rfl) (by unfold maxLen; omega) (by omega) hbase ?_
  intro A' c' w' h1 h2 h3 _
  have := h A' c' w' (by unfold OwnF; rw [FlV_append, List.length_append]; exact h1) h2
  rwa [List.length_append] at this
theorem obj_app {w wr w5 w7 : World} {gr G base B N n : Nat} {A' : Option Addr} {c' : Nat} {R : Option Nat} {all : List Int} {en : Bool} {sI s' s2 : IRd} {left q : List Int} {LA : Option Addr} {lc : Nat} {oA : Option Addr} {oc : Nat} {rs : List RO} {gp g : Nat} {o : OV} {A5 A7 : Option Addr} {c5 c7 : Nat} {ob : Obj} {x : RO}
    (h : PI w wr gr G base B N n A' c' R all en sI s' left LA lc oA oc rs) (fr : Frm wr w5 (fun b => b = gr)) (rb : RB w5 gr s2 A' c') (pr : PrsO G w5 gp g B q 2) (ow : Own w5 (B + 1) A5 c5 o.data) (os : OwnF ROC 5 27 w5 (B + 1) oA oc rs) (hg : wr.heap.size ≤ g) (hgp : wr.heap.size ≤ gp)
    (o7 : OwnF ROC 5 27 w7 (B + 1) A7 c7 (rs ++ [x])) (g7 : (w5.alloc ob).grownBy w7 (Value.slice oA rs.length oc).ownBlock) :
    Frm wr w7 (fun b => b = gr ∨ (Value.slice oA rs.length oc).ownBlock = some b) ∧ RB w7 gr s2 A' c' ∧ PrsO G w7 gp g B q 2 ∧ Own w7 (B + 1) A5 c5 o.data := by
  have ba : Below w5.heap.size w5 (w5.alloc ob) := (Below.refl _ _).alloc (Nat.le_refl _) _
  have row : ∀ k, (Value.slice oA rs.length oc).ownBlock = some k → B + 1 ≤ k := fun k hk => OwnV.row_ge (show OwnV w5 (B + 1) 27 5 oA oc rs.length (FlV ROC rs) from os) k hk
  refine ⟨((fr.mono (fun b _ hb => .inl hb)).alloc ob).grown g7 (fun r hr => .inr (.inr hr)), (rb.below ba rb.lt).grown g7 (fun e => ownF_ne os rb (by decide) gr e.symm rfl), ?_, OwnV.apart (OwnV.below (show OwnV w5 (B + 1) 5 1 A5 c5 o.data.length (U8 o.data) from ow) ba) g7 (fun k hk e => own_ne_obj ow os k hk e)⟩
  have p6 := pr.below ba
  obtain ⟨A1, c1, k1, e1, e2, e3, e4⟩ := pr.rd.blk
  have hgn : ∀ k, (Value.slice oA rs.length oc).ownBlock = some k → k ≠ g := ownF_ne os k1 (by decide)
  have hgpn : ∀ k, (Value.slice oA rs.length oc).ownBlock = some k → k ≠ gp := ownF_ne os pr.pb (by decide)
  have hl := p6.rd.lt
  have hle := p6.rd.le
  obtain ⟨A2, c2, kb, f1, f2, f3, f4⟩ := p6.rd.blk
  exact ⟨p6.pb.grown g7 (fun e => hgpn gp e.symm rfl), ⟨⟨A2, c2, kb.grown g7 (fun e => hgn g e.symm rfl), f1, f2, f3.grown g7 (by omega) (fun r hr => by have := row r hr; omega), f4⟩, p6.rd.bytes, p6.rd.le, p6.rd.small⟩, p6.le⟩
theorem pRun_len : ∀ (n : Nat) (s : IRd) (p : List Int), (pRun n s p).2.1.length ≤ n
  | 0, s, p => Nat.zero_le _
  | n + 1, s, p => by
    unfold pRun
    split
    · split
      · exact Nat.zero_le _
      · split
        · exact Nat.zero_le _
        · simp only [List.length_cons]
          have := pRun_len n (s.aft (by assumption)) (by assumption)
          omega
    · split
      · exact Nat.zero_le _
      · exact Nat.le_trans (pRun_len n _ _) (Nat.le_succ n)
theorem PI.rs_len {w wr : World} {gr G base B N n : Nat} {A' : Option Addr} {c' : Nat} {R : Option Nat} {all : List Int} {en : Bool} {sI s' : IRd} {left : List Int} {LA : Option Addr} {lc : Nat} {oA : Option Addr} {oc : Nat} {rs : List RO}
    (h : PI w wr gr G base B N n A' c' R all en sI s' left LA lc oA oc rs) (hN : N = all.length + 5) (hl : all.length ≤ 1000000000) : rs.length ≤ 1000000000000 := by
  have h1 := h.run
  have h2 := pRun_len N sI all
  rw [h1] at h2
  simp only [glue, List.length_append, List.length_map] at h2
  omega
set_option maxHeartbeats 6400000 in
set_option maxRecDepth 100000 in
theorem Put_any (gr base pc : Nat) (s0 : IRd) (A : Option Addr) (c : Nat) (pA : Option Addr) (p : List Int) (en : Bool) (w : World) (hr : RB w gr s0 A c) (ho : Own w base A c s0.held) (hov : s0.over = false) (hp : Rd w pA p) (hbh : Bytes s0.held) (hbp : Bytes p) (hl : s0.held.length + p.length ≤ 1000000000) (hb : base ≤ w.heap.size) :
    Calls Tryd.prog 18 #[.pointer (some ⟨gr, 0, none⟩), .slice pA p.length pc, .bool en] w fun r w' => PutTo w w' gr base ((s0.held ++ p).length + 5) (Value.slice A s0.held.length c).ownBlock (s0.held ++ p) en { s0 with held := s0.held ++ p } r := by
  have hmf : ∀ (fn : Fn) (first cap : Array Value) (w : World), (Instr.makeFunc fn first cap).run Tryd.prog w = .ok (.func fn first cap) w := fun _ _ _ _ => rfl
  obtain ⟨all, hall⟩ : ∃ l, l = s0.held ++ p := ⟨_, rfl⟩
  obtain ⟨N, hN⟩ : ∃ n, n = all.length + 5 := ⟨_, rfl⟩
  obtain ⟨R, hR⟩ : ∃ r, r = (Value.slice A s0.held.length c).ownBlock := ⟨_, rfl⟩
  obtain ⟨sI, hsI⟩ : ∃ s, s = ({ s0 with held := all } : IRd) := ⟨_, rfl⟩
  rw [← hall, ← hN, ← hR, ← hsI]
  have HBA := Lib.hid (show Bytes all by rw [hall]; exact Bytes.append hbh hbp)
  have HLA := Lib.hid (show all.length ≤ 1000000000 by rw [hall, List.length_append]; exact hl)
  obtain ⟨⟨fe, hid, hgr, hpr⟩, bg, lg, lo, sm, ov, held⟩ := s0
  simp only at ho hov hbh hl hall hR
  subst hov
  have HALL := Lib.hid hall
  have HNN := Lib.hid hN
  have HRR := Lib.hid hR
  have HSI := Lib.hid hsI
  have HLEN := Lib.hid (show held.length + p.length ≤ 70368744177664 by omega)
  have HB := Lib.hid hb
  have HGR := Lib.hid hr.lt
  obtain ⟨W, hW⟩ : ∃ W, W = ((w.alloc (.cells #[.pointer (some ⟨gr, 0, none⟩)] 45)).alloc (.cells #[.bool en] 4)).alloc (.cells #[.int .i64 0] 32) := ⟨_, rfl⟩
  have bw : Below w.heap.size w W := by rw [hW]; exact (((Below.refl _ _).alloc (Nat.le_refl _) _).alloc (by simp) _).alloc (by simp; omega) _
  have hzW : W.heap.size = w.heap.size + 3 := by rw [hW]; simp
  have KQ := Lib.hid (show Blk W w.heap.size 45 #[.pointer (some ⟨gr, 0, none⟩)] by rw [hW]; exact ((Blk.new _ _ _).alloc _).alloc _)
  have KN := Lib.hid (show Blk W (w.heap.size + 1) 4 #[.bool en] by
    rw [hW]
    have := (Blk.new (w.alloc (.cells #[.pointer (some ⟨gr, 0, none⟩)] 45)) 4 #[.bool en]).alloc (.cells #[.int .i64 0] 32)
    simpa using this)
  have KE := Lib.hid (show Blk W (w.heap.size + 2) 32 #[.int .i64 0] by
    rw [hW]
    have := Blk.new ((w.alloc (.cells #[.pointer (some ⟨gr, 0, none⟩)] 45)).alloc (.cells #[.bool en] 4)) 32 #[.int .i64 0]
    simpa using this)
  have hRlt : ∀ k, R = some k → k < w.heap.size := fun k hk => OwnV.row_lt (show OwnV w base 5 1 A c held.length (U8 held) from ho) (by rw [← hR]; exact hk)
  have NQ := Lib.hid (show ¬ (w.heap.size = gr ∨ R = some w.heap.size) from fun e => e.elim (fun e => by have := hr.lt; omega) (fun e => by have := hRlt _ e; omega))
  have HBX := Lib.hid (And.intro KQ.out (And.intro KN.out (And.intro NQ.out (show ¬ (w.heap.size + 1 = gr ∨ R = some (w.heap.size + 1)) from fun e => e.elim (fun e => by have := hr.lt; omega) (fun e => by have := hRlt _ e; omega)))))
  have RBW := Lib.hid (hr.below bw hr.lt)
  have OWW := Lib.hid (OwnV.below (show OwnV w base 5 1 A c held.length (U8 held) from ho) bw)
  have RPW := Lib.hid (Rd.below hp bw)
  have HWB := Lib.hid bw
  have HZW := Lib.hid hzW
  have HW := Lib.hid hW
  have q0 := KQ.out.cell 0
  have qz := KQ.out.lt
  have r8 := RBW.out.cell 8
  have rz := RBW.out.lt
  have e0 := KE.out.cell 0
  have ez := KE.out.lt
  simp only [irdC, List.getElem?_toArray, List.getElem?_cons_zero, List.getElem?_cons_succ] at q0 r8 e0
  obtain ⟨P9, hP9⟩ : ∃ P9 : World → Ending → Prop, P9 = fun w' r => PutTo w w' gr base N R all en sI r := ⟨_, rfl⟩
  have HP := Lib.hid hP9
  clear hr ho hp hbh hbp hl hb hall hN hR hsI hW bw hzW hRlt hP9
  go_enter_defers Tryd.func18, Tryd.ntmps18
  go_upto_region 1 with (fail)
  rw [← HW.out]
  go_upto_region 5 with (fail)
  clear q0 qz r8 rz e0 ez
  refine wp_region_noPanic ?_
  refine wp_region_held_drew (S := fun wv => Frm W wv (fun b => b = gr ∨ R = some b)) (by kernel_rfl) (Frm.refl _ _).drew (fun s0 => ?_)
  refine wpAnyH_take (i := 0) (oi := ⟨_, _, _, _, _, _⟩) (v := .pointer (some ⟨gr, 0, none⟩)) rfl (by kernel_rfl) (by kernel_rfl) (by kernel_rfl) (fun _ _ _ h => h) (Or.inl ⟨by rfl, fun w' hS => by have kq := Frm.keep hS KQ.out NQ.out; have c0 := kq.cell 0; have z0 := kq.lt; simp only [List.getElem?_toArray, List.getElem?_cons_zero] at c0; go_simp⟩) s0 ?_
  simp only [List.getElem_toArray, List.getElem_cons_succ, List.getElem_cons_zero, Act.put, List.setIfInBounds_toArray, List.set_cons_zero, List.set_cons_succ]
  refine wpAnyH_take (i := 1) (oi := ⟨_, _, _, _, _, _⟩) (v := .pointer (some ⟨gr, 0, none⟩)) rfl (by kernel_rfl) (by kernel_rfl) (by kernel_rfl) (fun _ _ _ h => h) (Or.inl ⟨by rfl, fun w' hS => by have kq := Frm.keep hS KQ.out NQ.out; have c0 := kq.cell 0; have z0 := kq.lt; simp only [List.getElem?_toArray, List.getElem?_cons_zero] at c0; go_simp⟩) s0 ?_
  simp only [List.getElem_toArray, List.getElem_cons_succ, List.getElem_cons_zero, Act.put, List.setIfInBounds_toArray, List.set_cons_zero, List.set_cons_succ]
  refine wpAnyH_take (i := 2) (oi := ⟨_, _, _, _, _, _⟩) (v := .pointer (some ⟨gr, 0, none⟩)) rfl (by kernel_rfl) (by kernel_rfl) (by kernel_rfl) (fun _ _ _ h => h) (Or.inl ⟨by rfl, fun w' hS => by go_simp⟩) s0 ?_
  simp only [List.getElem_toArray, List.getElem_cons_succ, List.getElem_cons_zero, Act.put, List.setIfInBounds_toArray, List.set_cons_zero, List.set_cons_succ]
  refine wpAnyH_take (i := 3) (oi := ⟨_, _, _, _, _, _⟩) (v := .pointer (some ⟨gr, 9, none⟩)) rfl (by kernel_rfl) (by kernel_rfl) (by kernel_rfl) (fun _ _ _ h => h) (Or.inl ⟨by rfl, fun w' hS => by go_simp⟩) s0 ?_
  simp only [List.getElem_toArray, List.getElem_cons_succ, List.getElem_cons_zero, Act.put, List.setIfInBounds_toArray, List.set_cons_zero, List.set_cons_succ]
  refine wpAnyH_take (i := 5) (oi := ⟨_, _, _, _, _, _⟩) (v := .slice pA p.length pc) rfl (by kernel_rfl) (by kernel_rfl) (by kernel_rfl) (fun _ _ _ h => h) (Or.inl ⟨by rfl, fun w' hS => by go_simp⟩) s0 ?_
  simp only [List.getElem_toArray, List.getElem_cons_succ, List.getElem_cons_zero, Act.put, List.setIfInBounds_toArray, List.set_cons_zero, List.set_cons_succ]
  obtain ⟨u0, hu0⟩ : ∃ v, v = W.drew := ⟨_, rfl⟩
  rw [← hu0] at s0 ⊢
  have F0 := Lib.hid s0
  have RB0 := Lib.hid (show RB u0 gr ⟨⟨fe, hid, hgr, hpr⟩, bg, lg, lo, sm, false, held⟩ A c by rw [hu0]; exact RBW.out.drew)
  have OW0 := Lib.hid (show Own u0 base A c held by rw [hu0]; exact OwnV.frm (show OwnV W base 5 1 A c held.length (U8 held) from OWW.out) ((Frm.refl W (fun _ => False)).drew) (fun _ _ h => h))
  have RP0 := Lib.hid (show Rd u0 pA p by rw [hu0]; exact Rd.below RPW.out (Below.refl _ _).drew)
  have KE0 := Lib.hid (show Blk u0 (w.heap.size + 2) 32 #[.int .i64 0] by rw [hu0]; exact KE.out.drew)
  have HU0 := Lib.hid (show u0.heap.size = W.heap.size by rw [hu0]; rfl)
  clear hu0
  have r9 := RB0.out.cell 9
  have rz := RB0.out.lt
  simp only [irdC, List.getElem?_toArray, List.getElem?_cons_zero, List.getElem?_cons_succ] at r9
  refine wpAnyH_ready (rs := [4]) (by kernel_rfl) (by simp) ?_
  refine AllReadyH.cons rfl (fun K hK => ?_) AllReadyH.nil
  go_simp
  refine hK.out _ _ s0 (fun s1 => ?_)
  clear hK K s0 r9 rz
  refine wpAnyH_ready (rs := [6]) (by kernel_rfl) (by simp) ?_
  refine AllReadyH.cons rfl (fun K hK => ?_) AllReadyH.nil
  refine step_appP rfl (.tmp 20) (.tmp 21) rfl base (l := held) (news := p) all HALL.out rfl rfl OW0.out RP0.out HLEN.out (by have := HB.out; have := HU0.out; have := HZW.out; omega) ?_
  intro A1 c1 u1 o1 g1 n1
  have hgR : ∀ k, (Value.slice A held.length c).ownBlock = some k → k ≠ gr := own_ne OW0.out RB0.out (by decide)
  have F1 := Lib.hid (F0.out.grown g1 (fun k hk => .inr (.inr (by rw [HRR.out]; exact hk))))
  refine hK.out _ _ F1.out (fun s2 => ?_)
  clear hK K s1
  have RB1 := Lib.hid (show RB u1 gr ⟨⟨fe, hid, hgr, hpr⟩, bg, lg, lo, sm, false, held⟩ A c from RB0.out.grown g1 (fun e => hgR gr e.symm rfl))
  have OW1 := Lib.hid o1
  have HN1 := Lib.hid n1
  have HZ1 := Lib.hid g1.size
  have KE1 := Lib.hid (KE0.out.grown g1 (fun e => own_ne OW0.out KE0.out (by decide) _ e.symm rfl))
  clear o1 g1 n1 hgR
  refine wpAnyH_take (i := 7) (oi := ⟨_, _, _, _, _, _⟩) (v := .pointer (some ⟨gr, 0, none⟩)) rfl (by kernel_rfl) (by kernel_rfl) (by kernel_rfl) (fun _ _ _ h => h) (Or.inl ⟨by rfl, fun w' hS => by go_simp⟩) s2 ?_
  simp only [List.getElem_toArray, List.getElem_cons_succ, List.getElem_cons_zero, Act.put, List.setIfInBounds_toArray, List.set_cons_zero, List.set_cons_succ]
  refine wpAnyH_take (i := 8) (oi := ⟨_, _, _, _, _, _⟩) (v := .pointer (some ⟨gr, 9, none⟩)) rfl (by kernel_rfl) (by kernel_rfl) (by kernel_rfl) (fun _ _ _ h => h) (Or.inl ⟨by rfl, fun w' hS => by go_simp⟩) s2 ?_
  simp only [List.getElem_toArray, List.getElem_cons_succ, List.getElem_cons_zero, Act.put, List.setIfInBounds_toArray, List.set_cons_zero, List.set_cons_succ]
  have r9 := RB1.out.cell 9
  have rz := RB1.out.lt
  have rf := RB1.out.frozen 9
  simp only [irdC, List.getElem?_toArray, List.getElem?_cons_zero, List.getElem?_cons_succ] at r9
  refine wpAnyH_ready (rs := [9]) (by kernel_rfl) (by simp) ?_
  refine AllReadyH.cons rfl (fun K hK => ?_) AllReadyH.nil
  go_simp
  refine hK.out _ _ (F1.out.set (p := ⟨gr, 9, none⟩) (.inr (.inl rfl)) _) (fun s3 => ?_)
  clear hK K s2 s3 r9 rz rf
  have ST := start_PI (en := en) (sI := sI) (w := w) (R := R) (N := N) RB1.out OW1.out HN1.out F1.out HBX.out HWB.out HZW.out HZ1.out HU0.out KE1.out HSI.out HBA.out HB.out HNN.out HGR.out (Nat.le_trans HLA.out (by decide))
  obtain ⟨u2, hu2⟩ : ∃ v, v = u1.setCell ⟨gr, 9, none⟩ (.slice A1 all.length c1) := ⟨_, rfl⟩
  rw [← hu2] at ST ⊢
  clear RB1 RB0 OW0 RP0 KE0 KE1 F0 F1 HN1 HU0 HZ1
  obtain ⟨G, PB, rbx, kq2, ST⟩ := ST
  have HPI0 := Lib.hid ST
  have KQ2 := Lib.hid kq2
  have RB2 := Lib.hid rbx
  have c0 := kq2.cell 0
  have z0 := kq2.lt
  have r9 := rbx.cell 9
  have rz := rbx.lt
  simp only [List.getElem?_toArray, List.getElem?_cons_zero] at c0
  simp only [irdC, List.getElem?_toArray, List.getElem?_cons_zero, List.getElem?_cons_succ] at r9
  rw [show sI.held.length = all.length by rw [HSI.out]] at r9
  clear ST kq2 rbx hu2 OW1
  refine wpAnyH_done (by kernel_rfl) (NoPanic.normal ?_) _
  go_wp2_with fail
  obtain ⟨w3, hw3⟩ : ∃ v, v = u2.alloc (.cells #[.slice A1 all.length c1] 25) := ⟨_, rfl⟩
  obtain ⟨B, hB⟩ : ∃ b, b = u2.heap.size := ⟨_, rfl⟩
  rw [← hw3, ← hB] at HPI0
  rw [← hw3, ← hB]
  clear hw3 hB c0 z0 r9 rz KQ2 RB2 PB KQ KN KE NQ HBX RBW OWW RPW HWB HW
  go_loopg [6] N (fun k lv wr => ∃ (s' : IRd) (left : List Int) (LA : Option Addr) (lc : Nat) (oA : Option Addr) (oc : Nat) (rs : List RO), lv = .slice oA rs.length oc ∧ Hid (PI w wr gr G base B N k A1 c1 R all en sI s' left LA lc oA oc rs))
  case atStart => exact ⟨sI, all, A1, c1, none, 0, [], rfl, HPI0⟩
  case round =>
    obtain ⟨s', left, LA, lc, oA, oc, rs, rfl, HI⟩ := hrel
    have cq := HI.out.bx.q.cell 0
    have zq := HI.out.bx.q.lt
    have cl := HI.out.bx.l.cell 0
    have zl := HI.out.bx.l.lt
    have r4 := HI.out.rb.cell 4
    have rz := HI.out.rb.lt
    have HSM := Lib.hid (show left.length ≤ 70368744177664 from Nat.le_trans HI.out.lf.le HI.out.lf.small)
    simp only [irdC, List.getElem?_toArray, List.getElem?_cons_zero, List.getElem?_cons_succ] at cq cl r4
    have NP := Lib.hid (PNewO_any (G := G) LA lc B left 2 wr HI.out.sl (Nat.le_of_lt HI.out.lt) HI.out.by_ HSM.out)
    cases hbg : s'.begun with
    | false =>
      rw [hbg] at r4
      have HBG := Lib.hid hbg
      obtain ⟨k', rfl⟩ : ∃ k', gk = k' + 1 := ⟨gk - 1, by have := HI.out.fuel; rw [hbg] at this; simp at this; omega⟩
      clear hbg HPI0
      go_wp2_with fail
      refine NP.out.mono ?_
      rintro e w4 ⟨gp, g, rfl, hpr, hg, hgp, b4⟩
      have rb4 := HI.out.rb.below b4 HI.out.rb.lt
      have BG := Lib.hid (begin_any gr G gp g B left s' A1 c1 w4 HI.out.hG.1 hpr rb4)
      have kq4 := HI.out.bx.q.below b4 HI.out.bx.q.lt
      have kl4 := Lib.hid (HI.out.bx.l.below b4 HI.out.bx.l.lt)
      have B4 := Lib.hid b4
      have HG4 := Lib.hid hg
      clear cq zq cl zl r4 rz NP hpr b4 hg hgp
      have cq := kq4.cell 0
      have zq := kq4.lt
      have r4 := rb4.cell 4
      have rz := rb4.lt
      simp only [irdC, List.getElem?_toArray, List.getElem?_cons_zero, List.getElem?_cons_succ] at cq r4
      rw [HBG.out] at r4
      clear kq4 rb4
      go_wp2_with fail
      refine BG.out.mono ?_
      rintro e w5 hBT
      have FR := Lib.hid (frm_call B4.out HG4.out hBT.fr)
      cases hpb : pBegin left with
      | error x =>
        obtain ⟨rfl, rb5⟩ := hBT.no x hpb
        have hp := HP.out
        subst hp
        exact put_pan _ (HI.out.move (FR.out.mono (fun b _ hb => .inl hb)) rb5 (FR.out.keep HI.out.bx.e (by have := HGR.out; omega))) (pRun_hdE HBG.out hpb) rfl rfl
      | ok hq =>
        obtain ⟨h', q⟩ := hq
        obtain ⟨rfl, pr5, rb5⟩ := hBT.ok h' q hpb
        have LF := Lib.hid (PLeft_anyO pr5)
        have hql := pBegin_lt hpb
        have hqb : Bytes q := pr5.rd.bytes
        have kl5 := FR.out.keep HI.out.bx.l (by have := HGR.out; have := HI.out.hB; omega)
        have HRB5 := Lib.hid rb5
        have HSTEP := Lib.hid (fun A6 c6 (sl6 : SlBO G w5 B A6 c6 q) => PI.step (ex := []) (n2 := k') HI.out (FR.out.mono (fun b _ hb => .inl hb)) rb5 HI.out.hs sl6 hql hqb (by rw [List.append_nil]; exact (pRun_hd HBG.out hpb).symm) (by have := HI.out.fuel; rw [HBG.out] at this; simp only [IRd.hd]; simp at this ⊢; omega) (by rw [List.append_nil]; exact OwnV.frm (show OwnV wr (B + 1) 27 5 oA oc rs.length (FlV ROC rs) from HI.out.os) FR.out (fun k hk => ownF_ne HI.out.os HI.out.rb (by decide) k hk)) (fun x hx => by simp at hx))
        clear cq zq r4 rz BG hBT hpb pr5 rb5 hql hqb
        have cl := kl5.cell 0
        have zl := kl5.lt
        have fl := fun i => kl5.frozen i
        simp only [List.getElem?_toArray, List.getElem?_cons_zero] at cl
        clear kl5
        go_wp2_with fail
        refine LF.out.mono ?_
        rintro e w6 ⟨A6, c6, rfl, sl6, hw6⟩
        subst hw6
        have S6 := HSTEP.out A6 c6 sl6
        rw [List.append_nil] at S6
        have HS6 := Lib.hid S6
        clear S6 sl6 LF HSTEP
        go_wp2_with fail
        go_roundg k'
        case measure => omega
        case rel => exact ⟨_, _, _, _, _, _, _, rfl, HS6⟩
    | true =>
      rw [hbg] at r4
      have HBG := Lib.hid hbg
      clear hbg HPI0
      rcases left with _ | ⟨x, t⟩
      · have ce := HI.out.bx.e.cell 0
        have ze := HI.out.bx.e.lt
        have fe := fun i => HI.out.bx.e.frozen i
        simp only [List.getElem?_toArray, List.getElem?_cons_zero] at ce
        have hl0 : (([] : List Int).length : Int) = 0 := rfl
        have KE2 := HI.out.bx.e.set_ 0 (.int .i64 0)
        have FE : Frm wr (wr.setCell ⟨w.heap.size + 2, 0, none⟩ (.int .i64 0)) (fun b => b = gr ∨ b = w.heap.size + 2) := Frm.set (S := fun b => b = gr ∨ b = w.heap.size + 2) (Frm.refl _ _) (p := ⟨w.heap.size + 2, 0, none⟩) (.inr (.inr rfl)) _
        have PX := Lib.hid (HI.out.move FE (HI.out.rb.far (p := ⟨w.heap.size + 2, 0, none⟩) (by show gr ≠ w.heap.size + 2; have := HGR.out; omega) _) (by simpa using KE2))
        have HX := Lib.hid (show glue (rs.map (·.o)) (pRun gk s' []) = (s', rs.map (·.o), [], 0) by
          cases gk with
          | zero => simp [pRun, glue]
          | succ k => exact pRun_end HBG.out)
        clear KE2 FE NP
        go_wp2_with fail
        have hp := HP.out
        subst hp
        exact put_idle _ PX.out HX.out rfl rfl
      · obtain ⟨k', rfl⟩ : ∃ k', gk = k' + 1 := ⟨gk - 1, by have := HI.out.fuel; simp only [List.length_cons] at this; omega⟩
        obtain ⟨LFT, hLFT⟩ : ∃ l, l = x :: t := ⟨_, rfl⟩
        have hpos : 0 < LFT.length := by rw [hLFT]; simp
        have HL := Lib.hid hLFT
        have hd : decide ((0 : Int) < (LFT.length : Int)) = true := by simp; omega
        rw [← hLFT] at HI NP cl HSM
        clear hLFT
        go_wp2_with fail
        refine NP.out.mono ?_
        rintro e w4 ⟨gp, g, rfl, hpr, hg, hgp, b4⟩
        have rb4 := HI.out.rb.below b4 HI.out.rb.lt
        have OB := Lib.hid (object_any gr G gp g B LFT s' A1 c1 w4 HI.out.hG.1 hpr rb4)
        have kq4 := HI.out.bx.q.below b4 HI.out.bx.q.lt
        have B4 := Lib.hid b4
        have HG4 := Lib.hid (And.intro hg hgp)
        clear cq zq cl zl r4 rz NP hpr b4 hg hgp
        have cq := kq4.cell 0
        have zq := kq4.lt
        have r4 := rb4.cell 4
        have rz := rb4.lt
        simp only [irdC, List.getElem?_toArray, List.getElem?_cons_zero, List.getElem?_cons_succ] at cq r4
        rw [HBG.out] at r4
        clear kq4 rb4
        go_wp2_with fail
        refine OB.out.mono ?_
        rintro e w5 hOT
        have FR := Lib.hid (frm_call B4.out HG4.out.1 hOT.fr)
        cases hpo : pObj s' LFT with
        | error y =>
          obtain ⟨rfl, rb5⟩ := hOT.no y hpo
          have hp := HP.out
          subst hp
          exact put_pan _ (HI.out.move (FR.out.mono (fun b _ hb => .inl hb)) rb5 (FR.out.keep HI.out.bx.e (by have := HGR.out; omega))) (by rw [HL.out] at hpo ⊢; exact pRun_objE HBG.out hpo) rfl rfl
        | ok oq =>
          obtain ⟨o, q⟩ := oq
          obtain ⟨A5, c5, rfl, o5, pr5, rb5⟩ := hOT.ok o q hpo
          have OS5 := Lib.hid (show OwnF ROC 5 27 w5 (B + 1) oA oc rs from OwnV.frm (show OwnV wr (B + 1) 27 5 oA oc rs.length (FlV ROC rs) from HI.out.os) FR.out (fun k hk => ownF_ne HI.out.os HI.out.rb (by decide) k hk))
          have KL5 := Lib.hid (FR.out.keep HI.out.bx.l (by have := HGR.out; have := HI.out.hB; omega))
          have HRS := Lib.hid (show rs.length ≤ 1000000000000 from PI.rs_len HI.out HNN.out HLA.out)
          have HRB5 := Lib.hid rb5
          have HPR5 := Lib.hid pr5
          have HO5 := Lib.hid (show Own w5 (B + 1) A5 c5 o.data from Own.base_leI o5 (by have := B4.out.size; have := HI.out.lt; omega))
          have hql := Lib.hid (pObj_lt hpo)
          have HRUN := Lib.hid (show glue ((rs ++ [(⟨o, A5, c5⟩ : RO)]).map (·.o)) (pRun k' (s'.aft o) q) = glue (rs.map (·.o)) (pRun (k' + 1) s' LFT) by
            rw [HL.out] at hpo ⊢
            rw [List.map_append]
            exact (pRun_obj HBG.out hpo).symm)
          obtain ⟨og, oo, op, om, od⟩ := o
          unfold ovC
          simp only
          clear cq zq r4 rz OB hOT hpo pr5 rb5 o5
          go_wp2_with (at_builtin
                       go_must (refine wpList_appO rfl (.tmp 46) (.tmp 50) rfl (B + 1) (rs := rs) (x := ⟨⟨og, oo, op, om, od⟩, A5, c5⟩) rfl rfl (OwnV.below (show OwnV w5 (B + 1) 27 5 oA oc rs.length (FlV ROC rs) from OS5.out) ((Below.refl _ _).alloc (Nat.le_refl _) _)) (rdf_one (Blk.new _ _ _)) HRS.out (by have := B4.out.size; have := HI.out.lt; have := FR.out.size; simp; omega) ?_)
                       intro A7 c7 w7 o7 g7
                       have O7 := Lib.hid o7
                       have G7 := Lib.hid g7
                       clear o7 g7)
          have A7F := obj_app (o := ⟨og, oo, op, om, od⟩) HI.out FR.out HRB5.out HPR5.out HO5.out OS5.out HG4.out.1 HG4.out.2 O7.out G7.out
          obtain ⟨fr7, rb7, pr7, ow7⟩ := A7F
          have LF := Lib.hid (PLeft_anyO pr7)
          have kl7 := fr7.keep HI.out.bx.l (fun e => e.elim (fun e => by have := HGR.out; have := HI.out.hB; omega) (fun e => by have := OwnV.row_ge (show OwnV wr (B + 1) 27 5 oA oc rs.length (FlV ROC rs) from HI.out.os) _ e; omega))
          have HSTEP := Lib.hid (fun A6 c6 (sl6 : SlBO G w7 B A6 c6 q) => PI.step (ex := [⟨⟨og, oo, op, om, od⟩, A5, c5⟩]) (n2 := k') HI.out fr7 rb7 (show (s'.aft ⟨og, oo, op, om, od⟩).held = all from HI.out.hs) sl6 hql.out pr7.rd.bytes HRUN.out (by
            have h1 := HI.out.fuel
            have h2 := hql.out
            have h3 : (s'.aft ⟨og, oo, op, om, od⟩).begun = true := HBG.out
            rw [h3]
            rw [HBG.out] at h1
            simp only [if_true] at h1 ⊢
            omega) O7.out (fun x hx => by rw [List.mem_singleton] at hx; subst hx; exact ow7))
          have cl := kl7.cell 0
          have zl := kl7.lt
          have fl := fun i => kl7.frozen i
          simp only [List.getElem?_toArray, List.getElem?_cons_zero] at cl
          obtain ⟨nn, hnn⟩ : ∃ n, n = rs.length + 1 := ⟨_, rfl⟩
          have HNX := Lib.hid (show nn = (rs ++ [(⟨⟨og, oo, op, om, od⟩, A5, c5⟩ : RO)]).length by rw [hnn]; simp)
          rw [← hnn]
          clear kl7 hnn fr7 rb7 pr7 ow7 O7 G7
          go_wp2_with fail
          refine LF.out.mono ?_
          rintro e w8 ⟨A6, c6, rfl, sl6, hw6⟩
          subst hw6
          have HS6 := Lib.hid (HSTEP.out A6 c6 sl6)
          clear sl6 LF HSTEP
          go_wp2_with fail
          go_roundg k'
          case measure => omega
          case rel => exact ⟨_, _, _, _, _, _, _, by rw [HNX.out], HS6⟩
end Go.Proofs.YtpaglcojbcndoaaDoor
