/-
  QuiltWhole: what its closure does with a piece.
-/
import Derived.Test.YtdafeokjedmnkaaDoorWholeA
namespace Go.Proofs.YtdafeokjedmnkaaDoor
open Go.RowKit Go.Maps
set_option linter.unusedVariables false
set_option linter.unusedSimpArgs false
theorem Qlt.base_le {w : World} {base base' g n : Nat} {s : QS} (h : Qlt w base g n s) (hb : base' ≤ base) : Qlt w base' g n s := by
  obtain ⟨M, h1, h2⟩ := h.q
  refine ⟨⟨M, h1, ?_⟩, h.ok, Nat.le_trans hb h.hg⟩
  rcases h2 with h2 | ⟨B, pt, h2, h3⟩
  · exact .inl h2
  · refine .inr ⟨B, pt, h2, h3.map, Nat.le_trans hb h3.bge, fun j g hj => ?_, h3.inj, h3.has⟩
    obtain ⟨a, b, c⟩ := h3.ent j g hj
    exact ⟨a, Nat.le_trans hb b, c⟩
/-- A piece of the text. -/
structure Piece where
  off : Nat
  n : Nat
  A : Option Addr
  c : Nat
  e : Bool
def PieceC (p : Piece) : List Value := [.int .u64 (p.off : Int), .slice p.A p.n p.c, .bool p.e]
structure PieceOk (P : World) (T : List Int) (p : Piece) : Prop where
  rd : Rd P p.A ((T.drop p.off).take p.n)
  le : p.n ≤ p.c
  max : p.c ≤ 9223372036854775807
  to : p.off + p.n ≤ T.length
  en : p.e = true → p.off + p.n = T.length
  row : ∀ ad, p.A = some ad → ad.block < P.heap.size
/-- The quilt at g, told at bq; what was read of it, at bG. -/
structure Wh (P W : World) (g bq bG m : Nat) (T : List Int) (s : QS) (G : Option Addr) (cg : Nat) (gt : List Int) : Prop where
  q : Qlt W P.heap.size g m s
  kq : Blk W bq 24 #[.pointer (some ⟨g, 0, none⟩)]
  kG : Blk W bG 29 #[.slice G gt.length cg]
  got : Own W P.heap.size G cg gt
  hgt : gt = T.take s.rd.toNat
  fit : Fits s T
  b : Below P.heap.size P W
  hq : P.heap.size ≤ bq
  hG : P.heap.size ≤ bG
set_option maxHeartbeats 1600000 in
theorem put_piece (P W : World) (g bq bG bs m : Nat) (T : List Int) (s : QS) (G : Option Addr) (cg : Nat) (gt : List Int) (p : Piece) (st : Int) (h : Wh P W g bq bG m T s G cg gt) (ht : TabT P) (hgl : 0 < P.heap.size) (hb : Bytes T) (hT : T.length ≤ 300)
    (hp : PieceOk P T p) (hbs : Blk P bs 5 #[.int .u8 st]) (hst : 0 ≤ st ∧ st < 256) (hm : m ≤ 1000000) :
    Calls Tryd.prog 28 #[.agg #[.int .u64 (p.off : Int), .slice p.A p.n p.c, .bool p.e], .pointer (some ⟨bq, 0, none⟩), .pointer (some ⟨bs, 0, none⟩), .pointer (some ⟨bG, 0, none⟩)] W fun r W' => r = .returned (.bool true) ∧
      ∃ s' G' cg' gt', Wh P W' g bq bG (m + 300) T s' G' cg' gt' ∧ (∀ x : Nat, p.off ≤ x → x < p.off + p.n → s'.f (x : Int) ≠ none) ∧ (∀ x : Nat, s.f (x : Int) ≠ none → s'.f (x : Int) ≠ none) ∧ s'.en = (s.en || p.e) := by
  obtain ⟨off, n, pA, pc, pe⟩ := p
  obtain ⟨p1, p2, p3, p4, p5, p6⟩ := hp
  simp only at p1 p2 p3 p4 p5 p6
  obtain ⟨PP, hPP⟩ : ∃ PP, PP = (T.drop off).take n := ⟨_, rfl⟩
  have hn : PP.length = n := by rw [hPP]; simp; omega
  obtain ⟨W1, hW1⟩ : ∃ W1, W1 = W.alloc (.cells #[.int .u64 (off : Int), .slice pA n pc, .bool pe] 54) := ⟨_, rfl⟩
  have hz := h.b.size
  have hgW := h.q.lt
  have b1 : Below P.heap.size W W1 := by rw [hW1]; exact (Below.refl _ _).alloc hz _
  have k1 : KeepT W W1 g := by rw [hW1]; exact keepT_alloc W g hgW _
  have B1 := h.b.trans b1
  have q1 : Qlt W1 P.heap.size g m s := by rw [hW1]; exact h.q.alloc _
  have src : Src W1 P.heap.size g pA pc PP := ⟨(p1.below B1) |> (by rw [hPP]; exact ·), (by rw [hPP]; exact fun x hx => hb x (List.mem_of_mem_drop (List.mem_of_mem_take hx))), by omega, p3, fun ad e => .inl (p6 ad e)⟩
  have hTl := h.fit.len h.q.ok
  have P1 := Put_any P.heap.size g m s (off : Int) pA pc PP pe W1 q1 src (ht.keep hgl B1) hgl (Nat.le_trans hz b1.size) (by omega) (WalkArith.wf_u64 (by omega)) (by omega) (by omega)
  have hcd := h.fit.code p4 p5 hT
  rw [hn, hcd] at P1
  have HP1 := Lib.hid P1
  have kq1 : (W.alloc (.cells #[.int .u64 (off : Int), .slice pA n pc, .bool pe] 54)).cell? ⟨bq, 0, none⟩ = some (.pointer (some ⟨g, 0, none⟩)) := by
    have := (h.kq.alloc (.cells #[.int .u64 (off : Int), .slice pA n pc, .bool pe] 54)).cell 0
    simpa using this
  have kq1W : Blk W1 bq 24 #[.pointer (some ⟨g, 0, none⟩)] := by rw [hW1]; exact h.kq.alloc _
  have kG1W : Blk W1 bG 29 #[.slice G gt.length cg] := by rw [hW1]; exact h.kG.alloc _
  have got1 : Own W1 P.heap.size G cg gt := by rw [hW1]; exact h.got.below ((Below.refl _ _).alloc (Nat.le_refl _) _)
  have H := Lib.hid h
  have HX := Lib.hid (And.intro q1 (And.intro kq1W (And.intro kG1W (And.intro got1 B1))))
  have HPP := Lib.hid hPP
  have HP5 := Lib.hid p5
  clear P1 hcd src p1 p2 p3 p5 p6 q1 k1 b1 B1 kq1W kG1W got1 h hb hPP ht
  go_enter Tryd.func28, Tryd.ntmps28
  go_wp2_with fail
  rw [← hW1]
  clear hW1
  refine HP1.out.mono ?_
  rintro r w2 ⟨rfl, ⟨s2, hs2, _, q2⟩, k2, b2⟩
  have hPT := hs2 trivial
  rw [HPP.out] at hPT
  obtain ⟨q1, kq1W, kG1W, got1, B1⟩ := HX.out
  obtain ⟨F2, cov2, old2, en2, rd2⟩ := H.out.fit.put hPT p4 HP5.out
  have bb2 := B1.trans b2
  obtain ⟨M1, hM1, _⟩ := q1.q
  have kq2 : Blk w2 bq 24 #[.pointer (some ⟨g, 0, none⟩)] := k2.blk (Blk.ne_ kq1W hM1 (by decide)) (by decide) kq1W
  have kg2 : Blk w2 bG 29 #[.slice G gt.length cg] := k2.blk (Blk.ne_ kG1W hM1 (by decide)) (by decide) kG1W
  have gt2 := own_keepT got1 q1 k2
  have cq2 := kq2.cell 0
  have cs2 := (hbs.below bb2 hbs.lt).cell 0
  simp at cq2 cs2
  have wst : IntKind.i64.wrap st = st := IntWalk.i64_in _ (by omega)
  have wst1 : IntKind.i64.wrap (1 + st) = 1 + st := IntWalk.i64_in _ (by omega)
  have hT2 := F2.len q2.ok
  have r20 := q2.ok.r0
  have r21 := q2.ok.r1
  obtain ⟨N, hN⟩ : ∃ N, N = takeN s2 (1 + st) := ⟨_, rfl⟩
  have hNw : s2.rd + (N : Int) ≤ s2.wh := by rw [hN]; unfold takeN; omega
  have T3 := Take_any P.heap.size g (m + n) s2 (1 + st) N w2 q2 (WalkArith.wf_i64 (by omega)) bb2.size (by omega) hN
  have nx := F2.next q2.ok hNw (r := s2.rd.toNat) (by omega)
  obtain ⟨NW, hNW⟩ : ∃ NW, NW = tk s2.f s2.rd N := ⟨_, rfl⟩
  have hNl : N = NW.length := by rw [hNW, tk_len]
  rw [← hNW] at T3 nx
  obtain ⟨X, hX⟩ : ∃ X, X = T.take (s2.rd.toNat + N) := ⟨_, rfl⟩
  have hgt := H.out.hgt
  rw [← hX, rd2, ← hgt] at nx
  have hxr : X = T.take (qTake s2 N).rd.toNat := by
    rw [hX]
    congr 1
    show s2.rd.toNat + N = (s2.rd + (N : Int)).toNat
    omega
  have hlg : gt.length ≤ 300 := by rw [hgt, List.length_take]; omega
  have hnw : N ≤ 300 := by
    have h1 := q2.ok.w1
    have h2 := F2.hi
    omega
  clear hN
  subst hNl
  have HT3 := Lib.hid T3
  have H2 := Lib.hid (And.intro F2 (And.intro cov2 (And.intro old2 en2)))
  have KQ2 := Lib.hid kq2
  have KG2 := Lib.hid kg2
  have got2 := Lib.hid gt2
  have B2 := Lib.hid bb2
  have Q2 := Lib.hid q2
  have hXr := Lib.hid hxr
  have nxx := Lib.hid nx.symm
  clear nx hxr kq2 kg2 gt2 bb2 T3 F2 cov2 old2 en2 q2 hNW hX hgt rd2 hPT HX q1 kq1W kG1W got1 B1 hM1 HPP HP1 kq1 hs2 k2 b2 hbs
  go_wp2_with fail
  refine HT3.out.mono ?_
  rintro r w3 ⟨⟨A3, c3, rfl, o3⟩, q3, k3, b3⟩
  obtain ⟨M2, hM2, _⟩ := Q2.out.q
  have KQ3 := Lib.hid (k3.blk (Blk.ne_ KQ2.out hM2 (by decide)) (by decide) KQ2.out)
  have KG3 := Lib.hid (k3.blk (Blk.ne_ KG2.out hM2 (by decide)) (by decide) KG2.out)
  have got3 := Lib.hid (own_keepT got2.out Q2.out k3)
  have B3 := Lib.hid (B2.out.trans b3)
  have Q3 := Lib.hid q3
  have R3 := Lib.hid (Rd.of_own o3)
  have cG3 := KG3.out.cell 0
  simp only [List.getElem?_toArray, List.getElem?_cons_zero] at cG3
  clear k3 b3 q3 o3 hM2 cq2 cs2 HT3
  go_wp2_with (at_builtin; go_must (refine wpList_appX2 rfl (.tmp 25) (.tmp 26) rfl P.heap.size (l := gt) (news := NW) (d := c3) X nxx.out rfl rfl got3.out R3.out (by omega) B3.out.size ?_); intro A5 c5 w5 o5 g5 b5 r5; have f5 := (KG3.out.grown g5 (own_not got3.out KG3.out (by decide))).frozen 0; have e5 := (KG3.out.grown g5 (own_not got3.out KG3.out (by decide))).cell 0; simp only [List.getElem?_toArray, List.getElem?_cons_zero] at e5; have r5 := Lib.hid r5; have g5 := Lib.hid g5; have b5 := Lib.hid b5; have o5 := Lib.hid o5)
  go_ret
  have KQ5 := KQ3.out.grown g5.out (own_not got3.out KQ3.out (by decide))
  have KG5 := KG3.out.grown g5.out (own_not got3.out KG3.out (by decide))
  have Q5 : Qlt w5 P.heap.size g (m + n) (qTake s2 NW.length) := Q3.out.grown g5.out (fun r e => by
    obtain ⟨_, cs, hb⟩ := own_row got3.out e
    exact ⟨_, cs, hb, by decide, by decide⟩)
  have gs : w5.grownBy (w5.setCell ⟨bG, 0, none⟩ (.slice A5 X.length c5)) (some bG) := gb_set (gb_refl _ _) (p := ⟨bG, 0, none⟩) rfl _
  have hnb : bq ≠ bG := Blk.ne_ KQ5 KG5 (by decide)
  refine ⟨rfl, qTake s2 NW.length, A5, c5, X, ⟨?_, ?_, ?_, ?_, hXr.out, H2.out.1.take _, ?_, H.out.hq, H.out.hG⟩, H2.out.2.1, H2.out.2.2.1, H2.out.2.2.2⟩
  · exact (Q5.grown gs (fun r e => by injection e with e; subst e; exact ⟨_, _, KG5, by decide, by decide⟩)).mono (by omega)
  · exact KQ5.far (p := ⟨bG, 0, none⟩) hnb _
  · have := Blk.set_ KG5 0 (.slice A5 X.length c5)
    simpa using this
  · exact o5.out.grown gs (fun q cur hq e => by injection e with e; exact Blk.ne_ KG5 hq (by decide) e)
  · exact (B3.out.trans b5.out).setCell (p := ⟨bG, 0, none⟩) H.out.hG _
end Go.Proofs.YtdafeokjedmnkaaDoor
