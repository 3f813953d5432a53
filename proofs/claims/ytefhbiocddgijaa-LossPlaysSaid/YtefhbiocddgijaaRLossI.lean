/-
  LossPlays: both ledgers side by side, nil or not: every call over one structure.
-/
import Derived.Test.YtefhbiocddgijaaRLossH
import Derived.Test.YtefhbiocddgijaaRLossP
namespace Go.Proofs.Ytefhbiocddgijaa
open Go.RowKit
set_option linter.unusedVariables false
set_option linter.unusedSimpArgs false
theorem rSend_nil (p : RPk) (w : World) : Calls Try.prog 14 #[.pointer none, .agg #[.int .u64 p.nu, .int .u64 p.se, .int .i64 p.si, .bool p.aq, .bool p.go]] w fun e w' => e = .returned (.int .i64 6) ∧ Below w.heap.size w w' := by
  obtain ⟨nu, se, si, aq, go⟩ := p
  go_enter Try.func14, Try.ntmps14
  go_wp2_with fail
  go_ret
  exact ⟨rfl, (Below.refl _ _).alloc (Nat.le_refl _) _⟩
structure RSTo (w w' : World) (base x : Nat) (A : Option Addr) (l' : RG) : Prop where
  ex : ∃ A1 c1, RLed w' base x A1 c1 l' ∧ ∀ b, LedS x A1 b → LedS x A b ∨ w.heap.size ≤ b
  fr : Frm w w' (LedS x A)
set_option maxHeartbeats 4000000 in
set_option maxRecDepth 100000 in
theorem rSend_any (base x : Nat) (A : Option Addr) (c : Nat) (l : RG) (p : RPk) (w : World) (h : RLed w base x A c l) (hl : l.op.length ≤ 1000000) (hb : base ≤ w.heap.size) (h5 : 0 ≤ p.nu) :
    Calls Try.prog 14 #[.pointer (some ⟨x, 0, none⟩), .agg #[.int .u64 p.nu, .int .u64 p.se, .int .i64 p.si, .bool p.aq, .bool p.go]] w fun e w' => e = .returned (.int .i64 (sendR l p)) ∧ RSTo w w' base x A (rSend l p) := by
  by_cases hg : sendR l p = 0
  · have h1 : ¬ p.si < 0 ∧ ¬ 4611686018427387903 < p.nu ∧ ¬ 4611686018427387903 < p.se ∧ ¬ p.nu < l.nx := by
      unfold sendR at hg
      by_cases h0 : p.si < 0 ∨ 4611686018427387903 < p.nu ∨ 4611686018427387903 < p.se
      · rw [if_pos h0] at hg; omega
      · rw [if_neg h0] at hg
        by_cases h6 : p.nu < l.nx
        · rw [if_pos h6] at hg; omega
        · omega
    refine (rSend_good base x A c l p w h hl hb h1.1 h1.2.1 h1.2.2.1 h1.2.2.2 h5).mono ?_
    rintro e w' ⟨rfl, h2⟩
    obtain ⟨A1, c1, h3, h4, h6⟩ := h2.out
    refine ⟨by rw [hg], ⟨A1, c1, by unfold rSend; rw [if_pos hg]; exact h3, fun b hb2 => ?_⟩, h4⟩
    rcases h6 b hb2 with rfl | h7
    · exact .inl (.inl rfl)
    · exact .inr h7
  · have hrs : rSend l p = l := by unfold rSend; rw [if_neg hg]
    rw [hrs]
    have HF := Lib.hid (show ∀ w' : World, Below w.heap.size w w' → RSTo w w' base x A l from fun w' hbw => ⟨⟨A, c, h.below hbw, fun b hb2 => .inl hb2⟩, Frm.of_below hbw⟩)
    have cc := (h.below ((Below.refl w.heap.size w).alloc (Nat.le_refl _) (.cells #[.int .u64 p.nu, .int .u64 p.se, .int .i64 p.si, .bool p.aq, .bool p.go] 32))).blk.cell 1
    have cz := h.lt
    simp at cc
    have BF := Lib.hid (((Below.refl w.heap.size w).alloc (Nat.le_refl _) (.cells #[.int .u64 p.nu, .int .u64 p.se, .int .i64 p.si, .bool p.aq, .bool p.go] 32)))
    have kk := (Blk.new w 32 #[.int .u64 p.nu, .int .u64 p.se, .int .i64 p.si, .bool p.aq, .bool p.go])
    have g0 := kk.cell 0
    have g1 := kk.cell 1
    have g2 := kk.cell 2
    simp at g0 g1 g2
    have hc1 := h.blk.cell 1
    simp at hc1
    obtain ⟨S, hS⟩ : ∃ S, S = sendR l p := ⟨_, rfl⟩
    unfold sendR at hS hg
    rw [show sendR l p = S by rw [hS]; rfl]
    clear h hrs kk
    obtain ⟨nu, se, si, aq, go⟩ := p
    simp only at *
    rcases (show si < 0 ∨ (¬ si < 0 ∧ 4611686018427387903 < nu) ∨ (¬ si < 0 ∧ ¬ 4611686018427387903 < nu ∧ 4611686018427387903 < se) ∨ (¬ si < 0 ∧ ¬ 4611686018427387903 < nu ∧ ¬ 4611686018427387903 < se) by omega) with h1 | ⟨h1, h2⟩ | ⟨h1, h2, h3⟩ | ⟨h1, h2, h3⟩
    · rw [if_pos (.inl h1)] at hS
      subst hS
      clear hg
      go_enter Try.func14, Try.ntmps14
      go_wp2_with fail
      go_ret
      exact ⟨rfl, HF.out _ BF.out⟩
    · rw [if_pos (.inr (.inl h2))] at hS
      subst hS
      clear hg
      go_enter Try.func14, Try.ntmps14
      go_wp2_with fail
      go_ret
      exact ⟨rfl, HF.out _ BF.out⟩
    · rw [if_pos (.inr (.inr h3))] at hS
      subst hS
      clear hg
      go_enter Try.func14, Try.ntmps14
      go_wp2_with fail
      go_ret
      exact ⟨rfl, HF.out _ BF.out⟩
    · have h0 : ¬ (si < 0 ∨ 4611686018427387903 < nu ∨ 4611686018427387903 < se) := by omega
      rw [if_neg h0] at hS hg
      have h6 : nu < l.nx := by
        by_cases h6 : nu < l.nx
        · exact h6
        · rw [if_neg h6] at hg; exact absurd rfl hg
      rw [if_pos h6] at hS
      subst hS
      have hd1 : decide (si < 0) = false := by simpa using h1
      have hd2 : decide (4611686018427387903 < nu) = false := by simpa using h2
      have hd3 : decide (4611686018427387903 < se) = false := by simpa using h3
      have hd4 : decide (nu < l.nx) = true := by simpa using h6
      clear hg h0 h1 h2 h3 h6
      go_enter Try.func14, Try.ntmps14
      go_wp2_with fail
      go_region
      go_wp2_with fail
      go_ret
      exact ⟨rfl, HF.out _ BF.out.drew⟩
def rgN : RG := ⟨[], 0, 0, false⟩
/-- Both ledgers' blocks; they lie below ul and ur. -/
structure PY (w wr : World) (ul ur : Nat) (pl px : Option Addr) (x : RG) (l : LG) (g : Nat) (A : Option Addr) (c y : Nat) (Ax : Option Addr) (cx : Nat) : Prop where
  pl : pl = some ⟨g, 0, none⟩
  px : px = some ⟨y, 0, none⟩
  led : Led wr w.heap.size g A c l
  rl : RLed wr w.heap.size y Ax cx x
  ap : ∀ b, LedS g A b → ¬ LedS y Ax b
  lol : ∀ b, LedS g A b → b < ul
  lor : ∀ b, LedS y Ax b → b < ur
/-- Both ledgers, nil or not. -/
structure PP (no : Bool) (w wr : World) (ul ur : Nat) (pl px : Option Addr) (x : RG) (l : LG) : Prop where
  bel : Below w.heap.size w wr
  ok : LgOk l
  rk : ∀ p ∈ x.op, 0 ≤ p.nu ∧ 0 ≤ p.se ∧ p.se ≤ 4611686018427387903
  rak : x.ak < 18446744073709551616
  hl : ul ≤ wr.heap.size
  hr : ur ≤ wr.heap.size
  nil : no = true → pl = none ∧ px = none ∧ l = lgN ∧ x = rgN
  yes : no = false → ∃ g A c y Ax cx, PY w wr ul ur pl px x l g A c y Ax cx
section
variable {no : Bool} {w wr w' : World} {ul ur : Nat} {pl px : Option Addr} {x : RG} {l : LG} {g : Nat} {A : Option Addr} {c y : Nat} {Ax : Option Addr} {cx : Nat}
theorem PP.below (h : PP no w wr ul ur pl px x l) (hb : Below wr.heap.size wr w') : PP no w w' ul ur pl px x l :=
  ⟨h.bel.trans (hb.mono h.bel.size), h.ok, h.rk, h.rak, Nat.le_trans h.hl hb.size, Nat.le_trans h.hr hb.size, h.nil, fun e => by
    obtain ⟨g, A, c, y, Ax, cx, h1, h2, h3, h4, h5, h6, h7⟩ := h.yes e
    exact ⟨g, A, c, y, Ax, cx, h1, h2, h3.below hb, h4.below hb, h5, h6, h7⟩⟩
theorem PP.drewN (h : PP no w wr ul ur pl px x l) (n : Nat) : PP no w (wr.drewN n) ul ur pl px x l := h.below (below_drewN (Below.refl _ _) n)
theorem PP.drew (h : PP no w wr ul ur pl px x l) : PP no w wr.drew ul ur pl px x l := h.below (Below.refl _ _).drew
theorem PP.alloc (h : PP no w wr ul ur pl px x l) (o : Obj) : PP no w (wr.alloc o) ul ur pl px x l := h.below ((Below.refl _ _).alloc (Nat.le_refl _) o)
theorem PP.up (h : PP no w wr ul ur pl px x l) {vl vr : Nat} (h1 : ul ≤ vl) (h2 : ur ≤ vr) (h3 : vl ≤ wr.heap.size) (h4 : vr ≤ wr.heap.size) : PP no w wr vl vr pl px x l :=
  ⟨h.bel, h.ok, h.rk, h.rak, h3, h4, h.nil, fun e => by
    obtain ⟨g, A, c, y, Ax, cx, a1, a2, a3, a4, a5, a6, a7⟩ := h.yes e
    exact ⟨g, A, c, y, Ax, cx, a1, a2, a3, a4, a5, fun b hb => by have := a6 b hb; omega, fun b hb => by have := a7 b hb; omega⟩⟩
theorem PP.topL (h : PP no w wr ul ur pl px x l) : PP no w wr wr.heap.size ur pl px x l := h.up h.hl (Nat.le_refl _) (Nat.le_refl _) h.hr
theorem PP.topR (h : PP no w wr ul ur pl px x l) : PP no w wr ul wr.heap.size pl px x l := h.up (Nat.le_refl _) h.hr h.hl (Nat.le_refl _)
/-- The program's ledger turned. -/
theorem PP.toL (h : PP false w wr ul ur pl px x l) (hy : PY w wr ul ur pl px x l g A c y Ax cx) {l' : LG} (ok' : LgOk l') (ht : LTo wr w' w.heap.size g A l') :
    PP false w w' w'.heap.size ur pl px x l' ∧ Frm wr w' (fun b => b < ul) := by
  obtain ⟨h1, h2, h3, h4, h5, h6, h7⟩ := hy
  obtain ⟨⟨A', c', h8, h9⟩, f⟩ := ht
  have hr := h4.frm f (fun b hb hs => h5 b hs hb)
  have hbel : Below w.heap.size wr w' := f.below h.bel.size (fun b hb hs => by
    rcases hs with rfl | hs
    · have := h3.le; omega
    · have := OwnV.row_ge' h3.own (k := b) (by rw [← hs]; exact ownBlock_len _ _ _ _ _); omega)
  refine ⟨⟨h.bel.trans hbel, ok', h.rk, h.rak, Nat.le_refl _, Nat.le_trans h.hr f.size, (fun e => by cases e), fun _ => ⟨g, A', c', y, Ax, cx, h1, h2, h8, hr, ?_, ?_, ?_⟩⟩, f.mono fun b _ hs => h6 b hs⟩
  · intro b hb hs
    rcases h9 b hb with h10 | h10
    · exact h5 b h10 hs
    · have := h7 b hs; have := h.hr; omega
  · intro b hb
    rcases hb with rfl | hb
    · exact h8.lt
    · exact OwnV.row_lt h8.own (k := b) (by rw [← hb]; exact ownBlock_len _ _ _ _ _)
  · exact h7
/-- The reference's ledger turned. -/
theorem PP.toR (h : PP false w wr ul ur pl px x l) (hy : PY w wr ul ur pl px x l g A c y Ax cx) {x' : RG} (rk' : ∀ p ∈ x'.op, 0 ≤ p.nu ∧ 0 ≤ p.se ∧ p.se ≤ 4611686018427387903) (rak' : x'.ak < 18446744073709551616) (ht : RSTo wr w' w.heap.size y Ax x') :
    PP false w w' ul w'.heap.size pl px x' l ∧ Frm wr w' (fun b => b < ur) := by
  obtain ⟨h1, h2, h3, h4, h5, h6, h7⟩ := hy
  obtain ⟨⟨A', c', h8, h9⟩, f⟩ := ht
  have hl := h3.frm f (fun b hb hs => h5 b hb hs)
  have hbel : Below w.heap.size wr w' := f.below h.bel.size (fun b hb hs => by
    rcases hs with rfl | hs
    · have := h4.le; omega
    · have := OwnV.row_ge' h4.own (k := b) (by rw [← hs]; exact ownBlock_len _ _ _ _ _); omega)
  refine ⟨⟨h.bel.trans hbel, h.ok, rk', rak', Nat.le_trans h.hl f.size, Nat.le_refl _, (fun e => by cases e), fun _ => ⟨g, A, c, y, A', c', h1, h2, hl, h8, ?_, ?_, ?_⟩⟩, f.mono fun b _ hs => h7 b hs⟩
  · intro b hb hs
    rcases h9 b hs with h10 | h10
    · exact h5 b hb h10
    · have := h6 b hb; have := h.hl; omega
  · exact h6
  · exact h8.lo
theorem LTo0.wide {base : Nat} {l' : LG} (h : LTo0 wr w' base g A l') : LTo wr w' base g A l' := by
  obtain ⟨⟨A', c', h1, h2⟩, f⟩ := h
  exact ⟨⟨A', c', h1, fun b hb => .inl (h2 b hb)⟩, f⟩
/-- Behind a call on the program's side that tells some. -/
structure AfL (no : Bool) (w W w' : World) (ul ur : Nat) (pl px : Option Addr) (x : RG) (l' : LG) (G : List PK) (A1 : Option Addr) (c1 : Nat) : Prop where
  pp : PP no w w' w'.heap.size ur pl px x l'
  own : OwnP w' W.heap.size A1 c1 G
  fr : Frm W w' (fun b => b < ul)
/-- Behind a call on the reference's side that tells some. -/
structure AfR (no : Bool) (w W w' : World) (ul ur : Nat) (pl px : Option Addr) (x' : RG) (l : LG) (G : List RPk) (A1 : Option Addr) : Prop where
  pp : PP no w w' ul w'.heap.size pl px x' l
  rd : RdR w' A1 G
  fr : Frm W w' (fun b => b < ur)
def ackEn (no : Bool) (l : LG) (r : List (Int × Int)) : Int := if no then 6 else ackE l r
def outLn (no : Bool) (l : LG) (r : List (Int × Int)) : List PK := if no then [] else ackL l r
def lAckn (no : Bool) (l : LG) (r : List (Int × Int)) : LG := if no then l else lAck l r
def outRn (no : Bool) (x : RG) (r : List (Int × Int)) : List RPk := if no then [] else if ackR x r = 0 then x.op.filter (GA r) else []
def ackRn (no : Bool) (x : RG) (r : List (Int × Int)) : Int := if no then 6 else ackR x r
def rAckn (no : Bool) (x : RG) (r : List (Int × Int)) : RG := if no then x else if ackR x r = 0 then rAck x r else x
theorem RdR.nil (w : World) (A : Option Addr) : RdR w A [] := ⟨by simp [FlV], fun h => absurd h (by simp)⟩
theorem OwnP.keep {W : World} {vb : Nat} {A1 : Option Addr} {c1 : Nat} {G : List PK} (h : OwnP W vb A1 c1 G) (hf : Frm W w' (fun b => b < ur)) (hv : ur ≤ vb) : OwnP w' vb A1 c1 G :=
  OwnV.frm h hf (fun k hk hs => by have := OwnV.row_ge' h hk; omega)
theorem PP.ackL (h : PP no w wr ul ur pl px x l) (B : Option Addr) (d : Nat) (r : List (Int × Int)) (hr : OwnG wr ul B d r) (hro : ∀ y ∈ r, PairOk y) (hl : l.op.length ≤ 1000000) (hrl : r.length ≤ 1000) :
    Calls Try.prog 6 #[.pointer pl, .slice B r.length d] wr fun e w' => ∃ A1 c1, e = .returned (.tuple #[.slice A1 (outLn no l r).length c1, .int .i64 (ackEn no l r)]) ∧ AfL no w wr w' ul ur pl px x (lAckn no l r) (outLn no l r) A1 c1 := by
  cases no with
  | true =>
    obtain ⟨rfl, rfl, rfl, rfl⟩ := h.nil rfl
    refine (LAck_nil B r.length d wr).mono ?_
    rintro e w' ⟨rfl, rfl⟩
    exact ⟨none, 0, rfl, h.topL, OwnF.nil _ _, Frm.refl _ _⟩
  | false =>
    obtain ⟨g, A, c, y, Ax, cx, hy⟩ := h.yes rfl
    have e1 := hy.pl
    subst e1
    refine (LAck_any w.heap.size g A c l B d r wr hy.led h.ok hr.reads (fun a ha hn e => by
      have h1 := hy.lol g (.inl rfl)
      rcases OwnV.row_is hr with ⟨_, h2, _⟩ | ⟨g2, cur, h2, h3, _⟩
      · omega
      · rw [h2] at ha; injection ha with ha; subst ha; simp only at e; omega) hro h.bel.size hl (by omega)).mono ?_
    rintro e w' ⟨A1, c1, rfl, hT⟩
    obtain ⟨hp, hf⟩ := h.toL hy (lAck_ok h.ok) hT.to.wide
    exact ⟨A1, c1, rfl, hp, hT.own, hf⟩
end
end Go.Proofs.Ytefhbiocddgijaa
