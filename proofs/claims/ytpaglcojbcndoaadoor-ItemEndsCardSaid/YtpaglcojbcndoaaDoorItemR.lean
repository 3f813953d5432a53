/-
  The item reader's Put: what stands in its loop; how it ends.
-/
import Derived.Test.YtpaglcojbcndoaaDoorItemP2
import Derived.Test.YtpaglcojbcndoaaDoorItemQ
import Derived.Defers
import Derived.Recover
namespace Go.Proofs.YtpaglcojbcndoaaDoor
open Go.RowKit
set_option linter.unusedVariables false
set_option linter.unusedSimpArgs false
/-- What stands in Put's loop. -/
structure PI (w wr : World) (gr G base B N n : Nat) (A' : Option Addr) (c' : Nat) (R : Option Nat) (all : List Int) (en : Bool) (sI s' : IRd) (left : List Int) (LA : Option Addr) (lc : Nat) (oA : Option Addr) (oc : Nat) (rs : List RO) : Prop where
  run : pRun N sI all = glue (rs.map (·.o)) (pRun n s' left)
  fuel : left.length + (if s'.begun then 0 else 1) ≤ n
  hs : s'.held = all
  bx : PBox wr (w.heap.size + 2) w.heap.size B (w.heap.size + 1) gr 0 LA left.length lc en
  rb : RB wr gr s' A' c'
  ow : Own wr base A' c' all
  lf : LeftOf wr gr s' A' c' LA lc left
  sl : SlBO G wr B LA lc left
  hG : gr ≠ G ∧ G ≠ w.heap.size + 2 ∧ G < B
  by_ : Bytes left
  os : OwnF ROC 5 27 wr (B + 1) oA oc rs
  ds : ∀ x ∈ rs, Own wr (B + 1) x.A x.c x.o.data
  fr : Frm w wr (fun b => b = gr ∨ R = some b)
  hB : w.heap.size + 3 ≤ B
  lt : B < wr.heap.size
  hk : ∀ k, A' = some ⟨k, 0, none⟩ → k < B
  hgr : gr < w.heap.size
  hb : base ≤ w.heap.size
/-- What Put answers. -/
structure PutTo (w w' : World) (gr base N : Nat) (R : Option Nat) (all : List Int) (en : Bool) (sI : IRd) (r : Ending) : Prop where
  ex : ∃ oA oc rs, r = .returned (.tuple #[.slice oA rs.length oc, .int .i64 (settleE (pRun N sI all).2.2.2 en)]) ∧ rs.map (·.o) = (pRun N sI all).2.1 ∧ OwnF ROC 5 27 w' w.heap.size oA oc rs ∧ (∀ x ∈ rs, Own w' w.heap.size x.A x.c x.o.data) ∧
    ∃ A' c', RB w' gr (settleS (pRun N sI all).1 (pRun N sI all).2.2.1 (pRun N sI all).2.2.2 en) A' c' ∧ Own w' base A' c' (settleS (pRun N sI all).1 (pRun N sI all).2.2.1 (pRun N sI all).2.2.2 en).held ∧ ∀ x ∈ rs, ∀ k, x.A = some ⟨k, 0, none⟩ → A' ≠ some ⟨k, 0, none⟩
  fr : Frm w w' (fun b => b = gr ∨ R = some b)
theorem OwnV.lowerI {w : World} {base base' : Nat} {e : TypeId} {size n : Nat} {A : Option Addr} {c : Nat} {xs : List Value} (h : OwnV w base e size A c n xs) (hb : base' ≤ base) : OwnV w base' e size A c n xs := by
  obtain ⟨h1, h2⟩ := h
  rcases h2 with h2 | ⟨g, cap, cur, hv, hg, rest⟩
  · exact ⟨h1, .inl h2⟩
  · exact ⟨h1, .inr ⟨g, cap, cur, hv, by omega, rest⟩⟩
section
variable {w wr wx w' : World} {gr G base B N n : Nat} {A' : Option Addr} {c' : Nat} {R : Option Nat} {all : List Int} {en : Bool} {sI s' : IRd} {left : List Int} {LA : Option Addr} {lc : Nat} {oA : Option Addr} {oc : Nat} {rs : List RO}
theorem SlBO.moved {G : Nat} {A : Option Addr} {c : Nat} {l : List Int} {S : Nat → Prop} (h : SlBO G w B A c l) (hf : Frm w wx S) (hB : B ≤ w.heap.size) (hG : ¬ S G) : SlBO G wx B A c l :=
  ⟨⟨h.rd.1, fun hn => by
    obtain ⟨ad, e1, hlt, hc⟩ := h.rd.2 hn
    refine ⟨ad, e1, hlt, fun j u hu => ?_⟩
    rw [← hc j u hu]
    exact World.cell?_of_block (a := ad.add j) (hf.blk (ad.add j).block (by rw [block_of_add]; omega) (by rw [block_of_add, h.nil.2 ad e1]; exact hG))⟩, h.le, h.max, h.nil⟩
theorem LeftOf.moved {A : Option Addr} {c : Nat} {s : IRd} (h : LeftOf w gr s A c LA lc left) (hs : SlBO G wx B LA lc left) (hB : B ≤ wx.heap.size) : LeftOf wx gr s A c LA lc left :=
  ⟨Reads.more hs.rd hB, h.le, h.small, h.nil, h.same⟩
theorem own_ne {A : Option Addr} {c : Nat} {l : List Int} {b0 X : Nat} {T : TypeId} {cs : Array Value} (ho : Own w b0 A c l) (hr : Blk w X T cs) (hT : T ≠ 5) : ∀ k, (Value.slice A l.length c).ownBlock = some k → k ≠ X := fun k hk => by
  rcases OwnV.row_is (show OwnV w b0 5 1 A c l.length (U8 l) from ho) with ⟨hA, _⟩ | ⟨g, cur, hA, _, hb, _⟩
  · rw [hA] at hk; cases hk
  · rw [hA] at hk
    simp [Value.ownBlock] at hk
    subst hk
    exact fun e => hr.ne_ hb hT e.symm
theorem ownF_ne {b0 X : Nat} {T : TypeId} {cs : Array Value} (ho : OwnF ROC 5 27 w b0 oA oc rs) (hr : Blk w X T cs) (hT : T ≠ 27) : ∀ k, (Value.slice oA rs.length oc).ownBlock = some k → k ≠ X := fun k hk => by
  rcases OwnV.row_is (show OwnV w b0 27 5 oA oc rs.length (FlV ROC rs) from ho) with ⟨hA, _⟩ | ⟨g, cur, hA, _, hb, _⟩
  · rw [hA] at hk; cases hk
  · rw [hA] at hk
    simp [Value.ownBlock] at hk
    subst hk
    exact fun e => hr.ne_ hb hT e.symm
theorem own_ne_obj {A : Option Addr} {c : Nat} {l : List Int} {b0 b1 : Nat} (ho : Own w b0 A c l) (h2 : OwnF ROC 5 27 w b1 oA oc rs) : ∀ k, (Value.slice A l.length c).ownBlock = some k → (Value.slice oA rs.length oc).ownBlock ≠ some k := fun k hk e => by
  rcases OwnV.row_is (show OwnV w b0 5 1 A c l.length (U8 l) from ho) with ⟨hA, _⟩ | ⟨g, cur, hA, _, hb, _⟩
  · rw [hA] at hk; cases hk
  · rw [hA] at hk
    simp [Value.ownBlock] at hk
    subst hk
    exact ownF_ne h2 hb (by decide) _ e rfl
/-- A call that failed, or a store into the error's box. -/
theorem PI.move (h : PI w wr gr G base B N n A' c' R all en sI s' left LA lc oA oc rs) (hf : Frm wr wx (fun b => b = gr ∨ b = w.heap.size + 2)) (hr : RB wx gr s' A' c') (he : Blk wx (w.heap.size + 2) 32 #[.int .i64 0]) : PI w wx gr G base B N n A' c' R all en sI s' left LA lc oA oc rs := by
  have h1 := h.hgr
  have h2 := h.hB
  have h3 := h.lt
  have SL := h.sl.moved hf (by omega) (fun e => e.elim (fun e => h.hG.1 e.symm) h.hG.2.1)
  have N1 := fun {A : Option Addr} {c : Nat} {l : List Int} {b0 : Nat} (ho : Own wr b0 A c l) k (hk : (Value.slice A l.length c).ownBlock = some k) => (show ¬ (k = gr ∨ k = w.heap.size + 2) from fun e => e.elim (own_ne ho h.rb (by decide) k hk) (own_ne ho h.bx.e (by decide) k hk))
  exact ⟨h.run, h.fuel, h.hs, ⟨he, hf.keep h.bx.q (by omega), hf.keep h.bx.l (by omega), hf.keep h.bx.n (by omega)⟩, hr,
    OwnV.frm (show OwnV wr base 5 1 A' c' all.length (U8 all) from h.ow) hf (N1 h.ow), h.lf.moved SL (by have := hf.size; omega), SL, h.hG, h.by_,
    OwnV.frm (show OwnV wr (B + 1) 27 5 oA oc rs.length (FlV ROC rs) from h.os) hf (fun k hk e => e.elim (ownF_ne h.os h.rb (by decide) k hk) (ownF_ne h.os h.bx.e (by decide) k hk)), (fun x hx => OwnV.frm (show OwnV wr (B + 1) 5 1 x.A x.c x.o.data.length (U8 x.o.data) from h.ds x hx) hf (N1 (h.ds x hx))),
    ⟨hf.os.trans h.fr.os, hf.tape.trans h.fr.tape, hf.output.trans h.fr.output, Nat.le_trans h.fr.size hf.size, fun b hb hs => (hf.blk b (Nat.lt_of_lt_of_le hb h.fr.size) (fun e => e.elim (fun e => hs (.inl e)) (fun e => by omega))).trans (h.fr.blk b hb hs)⟩, h.hB, Nat.lt_of_lt_of_le h3 hf.size, h.hk, h.hgr, h.hb⟩
/-- A round that went well. -/
theorem PI.step {s2 : IRd} {q : List Int} {A2 : Option Addr} {c2 n2 : Nat} {oA2 : Option Addr} {oc2 : Nat} {ex : List RO} (h : PI w wr gr G base B N n A' c' R all en sI s' left LA lc oA oc rs) (hf : Frm wr wx (fun b => b = gr ∨ (Value.slice oA rs.length oc).ownBlock = some b)) (hr : RB wx gr s2 A' c') (hs2 : s2.held = all)
    (hsl : SlBO G wx B A2 c2 q) (hq : q.length < left.length) (hby : Bytes q) (hrun : glue ((rs ++ ex).map (·.o)) (pRun n2 s2 q) = glue (rs.map (·.o)) (pRun n s' left)) (hfuel : q.length + (if s2.begun then 0 else 1) ≤ n2)
    (hos : OwnF ROC 5 27 wx (B + 1) oA2 oc2 (rs ++ ex)) (hex : ∀ x ∈ ex, Own wx (B + 1) x.A x.c x.o.data) :
    PI w (wx.setCell ⟨B, 0, none⟩ (.slice A2 q.length c2)) gr G base B N n2 A' c' R all en sI s2 q A2 c2 oA2 oc2 (rs ++ ex) := by
  have h1 := h.hgr
  have h2 := h.hB
  have h3 := h.lt
  have hzx := hf.size
  have hge : ∀ k, (Value.slice oA rs.length oc).ownBlock = some k → B + 1 ≤ k := fun k hk => OwnV.row_ge (show OwnV wr (B + 1) 27 5 oA oc rs.length (FlV ROC rs) from h.os) k hk
  have nb : ∀ b, b ≤ B → b ≠ gr → ¬ (b = gr ∨ (Value.slice oA rs.length oc).ownBlock = some b) := fun b hb hn e => e.elim hn (fun e => by have := hge b e; omega)
  have gs : wx.grownBy (wx.setCell ⟨B, 0, none⟩ (.slice A2 q.length c2)) (some B) := only_set (only_refl wx _) (p := ⟨B, 0, none⟩) rfl _
  have kl := hf.keep h.bx.l (nb B (by omega) (by omega))
  have ke := hf.keep h.bx.e (nb _ (by omega) (by omega))
  have kq := hf.keep h.bx.q (nb _ (by omega) (by omega))
  have kn := hf.keep h.bx.n (nb _ (by omega) (by omega))
  have N1 := fun {A : Option Addr} {c : Nat} {l : List Int} {b0 : Nat} (ho : Own wr b0 A c l) k (hk : (Value.slice A l.length c).ownBlock = some k) => (show ¬ (k = gr ∨ (Value.slice oA rs.length oc).ownBlock = some k) from fun e => e.elim (own_ne ho h.rb (by decide) k hk) (own_ne_obj ho h.os k hk))
  have ow2 := OwnV.frm (show OwnV wr base 5 1 A' c' all.length (U8 all) from h.ow) hf (N1 h.ow)
  have SL : SlBO G (wx.setCell ⟨B, 0, none⟩ (.slice A2 q.length c2)) B A2 c2 q := hsl.moved (S := fun b => b = B) (Frm.set (S := fun b => b = B) (Frm.refl _ _) (p := ⟨B, 0, none⟩) (.inr rfl) _) (by omega) (fun e => by have := h.hG.2.2; omega)
  have hll := h.lf.le
  have hsm := h.lf.small
  rw [h.hs] at hll hsm
  refine ⟨by rw [hrun]; exact h.run, hfuel, hs2, ⟨ke.grown gs (fun e => by injection e with e; omega), kq.grown gs (fun e => by injection e with e; omega), by have := kl.set_ 0 (.slice A2 q.length c2); simpa using this, kn.grown gs (fun e => by injection e with e; omega)⟩, hr.grown gs (fun e => by injection e with e; omega), ?_, ?_, SL, h.hG, hby, ?_, ?_, ?_, h.hB, ?_, h.hk, h.hgr, h.hb⟩
  · refine OwnV.apart ow2 gs (fun k hk e => ?_)
    injection e with e
    exact own_ne (show Own wx base A' c' all from ow2) kl (by decide) k hk e.symm
  · refine ⟨Reads.more SL.rd (by simp; omega), by rw [hs2]; omega, by rw [hs2]; exact hsm, fun e => ⟨?_, SL.nil.1 e⟩, fun e => by rw [hs2] at e; omega⟩
    have := SL.nil.1 e
    have := SL.le
    exact List.eq_nil_of_length_eq_zero (by omega)
  · refine OwnV.apart (show OwnV wx (B + 1) 27 5 oA2 oc2 (rs ++ ex).length (FlV ROC (rs ++ ex)) from hos) gs (fun k hk e => ?_)
    injection e with e
    exact ownF_ne hos kl (by decide) k hk e.symm
  · intro x hx
    have o1 : Own wx (B + 1) x.A x.c x.o.data := by
      rcases List.mem_append.1 hx with hx | hx
      · exact OwnV.frm (show OwnV wr (B + 1) 5 1 x.A x.c x.o.data.length (U8 x.o.data) from h.ds x hx) hf (N1 (h.ds x hx))
      · exact hex x hx
    refine OwnV.apart (show OwnV wx (B + 1) 5 1 x.A x.c x.o.data.length (U8 x.o.data) from o1) gs (fun k hk e => ?_)
    injection e with e
    exact own_ne o1 kl (by decide) k hk e.symm
  · exact ⟨hf.os.trans h.fr.os, hf.tape.trans h.fr.tape, hf.output.trans h.fr.output, by simp [World.setCell]; exact Nat.le_trans h.fr.size hzx, fun b hb hs => (Below.heap_setCell wx ⟨B, 0, none⟩ _ b (by show b ≠ B; omega)).trans ((hf.blk b (Nat.lt_of_lt_of_le hb h.fr.size) (nb b (by omega) (fun e => hs (.inl e)))).trans (h.fr.blk b hb hs))⟩
  · simp [World.setCell]; omega
theorem results_put (tmps : Array Value) (w : World) (ge : Nat) (lv v : Value) (h6 : tmps.getD 6 undef = lv) (h7 : tmps.getD 7 undef = .pointer (some ⟨ge, 0, none⟩)) (c : w.cell? ⟨ge, 0, none⟩ = some v) :
    (results Tryd.f18 tmps).run Tryd.prog w = .ok (.tuple #[lv, v]) w := by
  have l2 := load1_errI w ge v c
  have h6' : tmps[6]?.getD undef = lv := by simpa using h6
  have h7' : tmps[7]?.getD undef = .pointer (some ⟨ge, 0, none⟩) := by simpa using h7
  simp only [results, show Tryd.f18.results = #[.tmp 6, .cell 7 32] from rfl]
  simp [h6', h7', asAddr, l2]
theorem Own.is_none {A : Option Addr} {c : Nat} {l : List Int} {b0 : Nat} (ho : Own w b0 A c l) (k : Nat) (hA : A = some ⟨k, 0, none⟩) : b0 ≤ k ∧ k < w.heap.size := by
  rcases OwnV.row_is (show OwnV w b0 5 1 A c l.length (U8 l) from ho) with ⟨h, _⟩ | ⟨g, cur, h, hg, hb, _⟩
  · rw [hA] at h; cases h
  · rw [hA] at h
    injection h with h
    injection h with h
    subst h
    exact ⟨hg, hb.lt⟩
/-- Behind the deferred function. -/
theorem put_fin (h : PI w wr gr G base B N n A' c' R all en sI s' left LA lc oA oc rs) {x : Int} (hx : glue (rs.map (·.o)) (pRun n s' left) = (s', rs.map (·.o), left, x)) (hd : PDone wr w' (w.heap.size + 2) gr base A' s' left x en) :
    w'.cell? ⟨w.heap.size + 2, 0, none⟩ = some (.int .i64 (settleE x en)) ∧ PutTo w w' gr base N R all en sI (.returned (.tuple #[.slice oA rs.length oc, .int .i64 (settleE x en)])) := by
  have hrun := h.run
  rw [hx] at hrun
  obtain ⟨w0, w1, h0, ⟨⟨A2, c2, rb2, ow2, hA2⟩, fr2⟩, hw'⟩ := hd
  have h1 := h.hgr
  have h2 := h.hB
  have h3 := h.lt
  have f0 : Frm wr w0 (fun b => b = gr ∨ b = w.heap.size + 2) := by
    rcases h0 with rfl | ⟨y, rfl⟩
    · exact Frm.refl _ _
    · exact Frm.set (S := fun b => b = gr ∨ b = w.heap.size + 2) (Frm.refl _ _) (p := ⟨w.heap.size + 2, 0, none⟩) (.inr (.inr rfl)) _
  have f1 : Frm wr w1 (fun b => b = gr ∨ b = w.heap.size + 2) := f0.trans (fr2.mono (fun b _ hb => .inl hb))
  have f2 : Frm wr w' (fun b => b = gr ∨ b = w.heap.size + 2) := by
    rw [hw']
    exact Frm.set (S := fun b => b = gr ∨ b = w.heap.size + 2) f1 (p := ⟨w.heap.size + 2, 0, none⟩) (.inr (.inr rfl)) _
  have ke0 : ∃ v, Blk w0 (w.heap.size + 2) 32 #[v] := by
    rcases h0 with rfl | ⟨y, rfl⟩
    · exact ⟨_, h.bx.e⟩
    · exact ⟨_, by have := h.bx.e.set_ 0 (.int .i64 y); simpa using this⟩
  obtain ⟨v0, ke0⟩ := ke0
  have ke1 : Blk w1 (w.heap.size + 2) 32 #[v0] := fr2.keep ke0 (by omega)
  have ke2 : Blk w' (w.heap.size + 2) 32 #[.int .i64 (settleE x en)] := by
    rw [hw']
    have := ke1.set_ 0 (.int .i64 (settleE x en))
    simpa using this
  have hzz : wr.heap.size ≤ w0.heap.size := f0.size
  have gs : w1.grownBy w' (some (w.heap.size + 2)) := by rw [hw']; exact only_set (only_refl w1 _) (p := ⟨w.heap.size + 2, 0, none⟩) rfl _
  refine ⟨by have := ke2.cell 0; simpa using this, ⟨oA, oc, rs, ?_, ?_, ?_, ?_, A2, c2, ?_, ?_, ?_⟩, ?_⟩
  · rw [hrun]
  · rw [hrun]
  · exact OwnV.lowerI (OwnV.frm (show OwnV wr (B + 1) 27 5 oA oc rs.length (FlV ROC rs) from h.os) f2 (fun k hk => by
      have e1 := OwnV.row_ge (show OwnV wr (B + 1) 27 5 oA oc rs.length (FlV ROC rs) from h.os) k hk
      omega)) (by omega)
  · exact fun y hy => Own.base_leI (OwnV.frm (show OwnV wr (B + 1) 5 1 y.A y.c y.o.data.length (U8 y.o.data) from h.ds y hy) f2 (fun k hk => by
      have e1 := OwnV.row_ge (show OwnV wr (B + 1) 5 1 y.A y.c y.o.data.length (U8 y.o.data) from h.ds y hy) k hk
      omega)) (by omega)
  · rw [hrun]
    exact rb2.grown gs (fun e => by injection e with e; omega)
  · rw [hrun]
    refine OwnV.apart (show OwnV w1 base 5 1 A2 c2 _ (U8 _) from ow2) gs (fun k hk e => ?_)
    injection e with e
    rcases OwnV.row_is (show OwnV w1 base 5 1 A2 c2 _ (U8 _) from ow2) with ⟨hA, _⟩ | ⟨g, cur, hA, _, hb, _⟩
    · rw [hA] at hk; cases hk
    · rw [hA] at hk
      simp [Value.ownBlock] at hk
      have := ke1.ne_ hb (by decide)
      omega
  · intro y hy k hk hc
    have e1 := Own.is_none (h.ds y hy) k hk
    rcases hA2 with hA | hA | ⟨k2, hA, hk2⟩
    · have := h.hk k (by rw [← hA]; exact hc)
      omega
    · rw [hA] at hc; cases hc
    · rw [hc] at hA
      injection hA with hA
      injection hA with hA
      omega
  · exact ⟨f2.os.trans h.fr.os, f2.tape.trans h.fr.tape, f2.output.trans h.fr.output, Nat.le_trans h.fr.size f2.size, fun b hb hs => (f2.blk b (Nat.lt_of_lt_of_le hb h.fr.size) (fun e => by
      rcases e with e | e
      · exact hs (.inl e)
      · omega)).trans (h.fr.blk b hb hs)⟩
theorem put_pan (tmps : Array Value) (h : PI w wr gr G base B N n A' c' R all en sI s' left LA lc oA oc rs) {x : Int} (hx : glue (rs.map (·.o)) (pRun n s' left) = (s', rs.map (·.o), left, x)) (h6 : tmps.getD 6 undef = .slice oA rs.length oc) (h7 : tmps.getD 7 undef = .pointer (some ⟨w.heap.size + 2, 0, none⟩)) :
    Leaves Tryd.prog Tryd.f18 tmps (fun r w' => PutTo w w' gr base N R all en sI r) [{ target := .fn (.func 36) #[.pointer (some ⟨w.heap.size + 2, 0, none⟩), .pointer (some ⟨w.heap.size, 0, none⟩), .pointer (some ⟨B, 0, none⟩), .pointer (some ⟨w.heap.size + 1, 0, none⟩)], args := #[] }] (.panicking [{ v := .iface 32 (.int .i64 x), recovered := false }]) wr := by
  refine leaves_cons (f := 36) (args := #[.pointer (some ⟨w.heap.size + 2, 0, none⟩), .pointer (some ⟨w.heap.size, 0, none⟩), .pointer (some ⟨B, 0, none⟩), .pointer (some ⟨w.heap.size + 1, 0, none⟩)]) (by simp) (by simp [go_sem]) ?_
  have hh := h.hs
  refine (catchP_pan (w.heap.size + 2) w.heap.size B (w.heap.size + 1) gr base s' A' c' LA lc left 0 x [] en wr h.rb (by rw [hh]; exact h.ow) h.lf (by have := h.hb; have := h.lt; have := h.hB; omega) h.bx (fun a e => by rw [h.sl.nil.2 a e]; exact h.hG.2.1) (fun _ k hk => by rw [hh] at hk; exact own_ne h.ow h.bx.e (by decide) k hk)).mono ?_
  rintro e u' w'' ⟨rfl, rfl, hD⟩
  obtain ⟨hc, hP⟩ := put_fin h hx hD
  exact ⟨_, results_put tmps w'' (w.heap.size + 2) _ _ h6 h7 hc, hP⟩
theorem put_idle (tmps : Array Value) (h : PI w wr gr G base B N n A' c' R all en sI s' left LA lc oA oc rs) (hx : glue (rs.map (·.o)) (pRun n s' left) = (s', rs.map (·.o), left, 0)) (h6 : tmps.getD 6 undef = .slice oA rs.length oc) (h7 : tmps.getD 7 undef = .pointer (some ⟨w.heap.size + 2, 0, none⟩)) :
    Leaves Tryd.prog Tryd.f18 tmps (fun r w' => PutTo w w' gr base N R all en sI r) [{ target := .fn (.func 36) #[.pointer (some ⟨w.heap.size + 2, 0, none⟩), .pointer (some ⟨w.heap.size, 0, none⟩), .pointer (some ⟨B, 0, none⟩), .pointer (some ⟨w.heap.size + 1, 0, none⟩)], args := #[] }] .returning wr := by
  refine leaves_cons (f := 36) (args := #[.pointer (some ⟨w.heap.size + 2, 0, none⟩), .pointer (some ⟨w.heap.size, 0, none⟩), .pointer (some ⟨B, 0, none⟩), .pointer (some ⟨w.heap.size + 1, 0, none⟩)]) (by simp) (by simp [go_sem]) ?_
  have hh := h.hs
  refine (catchP_idle (w.heap.size + 2) w.heap.size B (w.heap.size + 1) gr base s' A' c' LA lc left 0 en wr h.rb (by rw [hh]; exact h.ow) h.lf (by have := h.hb; have := h.lt; have := h.hB; omega) h.bx).mono ?_
  rintro e u' w'' ⟨rfl, rfl, hD⟩
  obtain ⟨hc, hP⟩ := put_fin h hx hD
  exact ⟨_, results_put tmps w'' (w.heap.size + 2) _ _ h6 h7 hc, hP⟩
end
end Go.Proofs.YtpaglcojbcndoaaDoor
