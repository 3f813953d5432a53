/-
  remove: what a closure says of each packet, in order.
-/
import Derived.Test.YtefhbiocddgijaaLossD
import Derived.Deep.RegionLaw
namespace Go.Proofs.Ytefhbiocddgijaa
open Go.RowKit
set_option linter.unusedVariables false
set_option linter.unusedSimpArgs false

/-- append of one packet into a row with room. -/
theorem wpList_pkIn {ops : Array Oper} {rest : List Oper} {o : Oper} {a : Act} {w : World} {Q : Exit → Act → World → Prop} (hgd : o.guard = none) (s x : Operand)
    (ho : o.op = .call { callee := .builtin .append, args := #[s, x], argTypes := #[36, 36] })
    {gp n cap d : Nat} {B : Addr} {cur : Array Value} (p : PK) (hs : a.eval s = .slice (some ⟨gp, 0, none⟩) n cap) (hx : a.eval x = .slice (some B) 1 d) (hb : Blk w gp 49 cur) (hr : Reads w w.heap.size 4 (some B) 1 (PkC p))
    (hroom : n + 1 ≤ cap) (hsz : cur.size = cap * 4)
    (h : ∀ w' cur', Blk w' gp 49 cur' → cur'.size = cur.size → (∀ j, j < 4 → cur'[n * 4 + j]? = (PkC p)[j]?) → (∀ j, (j < n * 4 ∨ n * 4 + 4 ≤ j) → cur'[j]? = cur[j]?) → w.grownBy w' (some gp) →
      wpList Try.prog ops Q rest (a.put o.dst (.slice (some ⟨gp, 0, none⟩) (n + 1) cap)) w') : wpList Try.prog ops Q (o :: rest) a w :=
  wpList_plain hgd fun K hK => by
    obtain ⟨i0, hi0, hz0, hz1, hz2⟩ := info_parts info_pk
    obtain ⟨B', hB, _, hcell⟩ := hr.2 (by omega)
    injection hB with hB
    subst hB
    have hn4 : n * 4 + 4 ≤ cap * 4 := by omega
    have hsp : ∀ j, j < (PkC p).length → (w.cell? ⟨gp, 0 + n * 4 + j, none⟩).isSome = true ∧ w.frozen? ⟨gp, 0 + n * 4 + j, none⟩ = false := fun j hj => by
      rw [PkC_len] at hj
      refine ⟨?_, hb.frozen _⟩
      rw [hb.cell, Array.getElem?_eq_getElem (by omega)]
      rfl
    have hw := hK _ _ (h (w.setCells gp (0 + n * 4) (PkC p)) _ (Blk.set_ (Blk.set_ (Blk.set_ (Blk.set_ hb (0 + n * 4) (.int .u64 p.nu)) (0 + n * 4 + 1) (.int .u64 p.se)) (0 + n * 4 + 1 + 1) (.int .i64 p.si)) (0 + n * 4 + 1 + 1 + 1) (.bool p.aq)) (by simp) (fun j hj => by
        simp only [Nat.zero_add, Array.getElem?_setIfInBounds, Array.size_setIfInBounds]
        rcases (show j = 0 ∨ j = 1 ∨ j = 2 ∨ j = 3 by omega) with rfl | rfl | rfl | rfl
        · rw [if_neg (by omega), if_neg (by omega), if_neg (by omega), if_pos (by omega), if_pos (by omega)]; rfl
        · rw [if_neg (by omega), if_neg (by omega), if_pos (by omega), if_pos (by omega)]; rfl
        · rw [if_neg (by omega), if_pos (by omega), if_pos (by omega)]; rfl
        · rw [if_pos (by omega), if_pos (by omega)]; rfl) (fun j hj => by
        simp only [Nat.zero_add, Array.getElem?_setIfInBounds, Array.size_setIfInBounds]
        rw [if_neg (by omega), if_neg (by omega), if_neg (by omega), if_neg (by omega)]) (gb_set (gb_set (gb_set (gb_set (gb_refl w (some gp)) rfl _) rfl _) rfl _) rfl _))
    have := step_append_room (P := Try.prog) (ops := ops) (K := K) (Q := Q) (E := True) hgd s x 36 ho 49 i0 4 Try.underlying36 hi0 hz1 gp 0 n cap hs B 1 d (PkC p) hx rfl hcell (PkC_one p) hroom hsp hw
    have hw2 : Region.wanted o (yielded ops a.tmps) = true := by simp [Region.wanted, hgd]
    rwa [if_pos hw2] at this

/-- What remove asks of its closure. -/
structure Goes (f : Nat) (cb : Array Value) (op : List PK) (G : PK → Bool) (C : Nat → World → Prop) (row : Option Nat) (N0 gp : Nat) : Prop where
  eg : ∀ args w, (callFunc f args).run Try.prog w = .ok (.enter f args) w
  ask : ∀ k p W, op[k]? = some p → C k W → Calls Try.prog f (#[.agg #[.int .u64 p.nu, .int .u64 p.se, .int .i64 p.si, .bool p.aq]] ++ cb) W fun e w' => e = .returned (.bool (G p)) ∧ C (k + 1) w' ∧ W.grownBy w' row
  st : ∀ k W W', C k W → Frm W W' (fun b => N0 ≤ b ∨ b = gp) → C k W'
  rw : ∀ r, row = some r → r < N0 ∧ r ≠ gp

/-- Behind k rounds. -/
structure Rm (w : World) (G : PK → Bool) (C : Nat → World → Prop) (row : Option Nat) (gp : Nat) (op : List PK) (cur0 : Array Value) (k : Nat) (A1 : Option Addr) (c1 : Nat) (gk lk : List PK) (wr : World) : Prop where
  eg : gk = (op.take k).filter G
  el : lk = (op.take k).filter (fun p => !G p)
  gn : OwnP wr w.heap.size A1 c1 gk
  lf : ∃ cur, Blk wr gp 49 cur ∧ cur.size = cur0.size ∧ (∀ j, j < lk.length * 4 → cur[j]? = (FlV PkC lk)[j]?) ∧ ∀ j, lk.length * 4 ≤ j → cur[j]? = cur0[j]?
  st : C k wr
  fr : Frm w wr (fun b => b = gp ∨ row = some b)
theorem filter_len (f : PK → Bool) (l : List PK) (k : Nat) : ((l.take k).filter f).length ≤ k := Nat.le_trans (List.length_filter_le _ _) (by simp; omega)
theorem OwnV.row_ge' {w : World} {base : Nat} {e : TypeId} {size n : Nat} {A : Option Addr} {c : Nat} {xs : List Value} (h : OwnV w base e size A c n xs) {k : Nat} (hk : (Value.slice A n c).ownBlock = some k) : base ≤ k := by
  rcases h.2 with ⟨h2, _⟩ | ⟨g, cap, cur, hv, hg, _⟩
  · rw [h2] at hk; cases hk
  · injection hv with hA; subst hA
    simp [Value.ownBlock] at hk; omega
theorem Rm.gone {w w2 w5 : World} {G : PK → Bool} {C : Nat → World → Prop} {row : Option Nat} {gp : Nat} {op : List PK} {cur0 cur : Array Value} {k : Nat} {A1 A2 : Option Addr} {c1 c2 : Nat} {gk lk : List PK} {p : PK} (o : Obj)
    (eg : gk = (op.take k).filter G) (el : lk = (op.take k).filter (fun p => !G p)) (hts : op.take (k + 1) = op.take k ++ [p]) (hG : G p = true) (hst : ∀ k W W', C k W → Frm W W' (fun b => w.heap.size ≤ b ∨ b = gp) → C k W') (C2 : C (k + 1) w2)
    (F2 : Frm w w2 (fun b => b = gp ∨ row = some b)) (G2 : OwnP w2 w.heap.size A1 c1 gk) (L2 : Blk w2 gp 49 cur) (hcur : cur.size = cur0.size ∧ (∀ j, j < lk.length * 4 → cur[j]? = (FlV PkC lk)[j]?) ∧ ∀ j, lk.length * 4 ≤ j → cur[j]? = cur0[j]?)
    (hown : OwnV w5 w.heap.size 49 4 A2 c2 (gk.length + 1) (FlV PkC gk ++ PkC p)) (hg : (w2.alloc o).grownBy w5 (Value.slice A1 gk.length c1).ownBlock) (hgp : gp < w.heap.size) :
    Rm w G C row gp op cur0 (k + 1) A2 c2 (gk ++ [p]) lk w5 := by
  have hge : ∀ r, (Value.slice A1 gk.length c1).ownBlock = some r → w.heap.size ≤ r := fun r hr => OwnV.row_ge' G2 hr
  refine ⟨by rw [hts, List.filter_append, ← eg]; simp [hG], by rw [hts, List.filter_append, ← el]; simp [hG], ?_, ⟨cur, (L2.alloc o).grown hg (fun e => ?_), hcur.1, hcur.2.1, hcur.2.2⟩, hst _ w2 w5 C2 (((Frm.refl _ _).alloc o).grown hg (fun r hr => .inr (.inl (hge r hr)))), (F2.alloc o).grown hg (fun r hr => .inl (hge r hr))⟩
  · unfold OwnP OwnF
    simp only [List.length_append, List.length_cons, List.length_nil, FlV_append, FlV_one]
    exact hown
  · have := hge gp e.symm
    omega
theorem Rm.left {w w2 w5 : World} {G : PK → Bool} {C : Nat → World → Prop} {row : Option Nat} {gp : Nat} {op : List PK} {cur0 cur cur2 : Array Value} {k : Nat} {A1 : Option Addr} {c1 : Nat} {gk lk : List PK} {p : PK} (o : Obj)
    (eg : gk = (op.take k).filter G) (el : lk = (op.take k).filter (fun p => !G p)) (hts : op.take (k + 1) = op.take k ++ [p]) (hG : G p = false) (hst : ∀ k W W', C k W → Frm W W' (fun b => w.heap.size ≤ b ∨ b = gp) → C k W') (C2 : C (k + 1) w2)
    (F2 : Frm w w2 (fun b => b = gp ∨ row = some b)) (G2 : OwnP w2 w.heap.size A1 c1 gk) (hcur : cur.size = cur0.size ∧ (∀ j, j < lk.length * 4 → cur[j]? = (FlV PkC lk)[j]?) ∧ ∀ j, lk.length * 4 ≤ j → cur[j]? = cur0[j]?)
    (hb : Blk w5 gp 49 cur2) (hs : cur2.size = cur.size) (hn : ∀ j, j < 4 → cur2[lk.length * 4 + j]? = (PkC p)[j]?) (ho : ∀ j, (j < lk.length * 4 ∨ lk.length * 4 + 4 ≤ j) → cur2[j]? = cur[j]?) (hg : (w2.alloc o).grownBy w5 (some gp)) (hgp : gp < w.heap.size) :
    Rm w G C row gp op cur0 (k + 1) A1 c1 gk (lk ++ [p]) w5 := by
  refine ⟨by rw [hts, List.filter_append, ← eg]; simp [hG], by rw [hts, List.filter_append, ← el]; simp [hG], OwnV.apart (OwnV.below G2 ((Below.refl _ _).alloc (Nat.le_refl _) o)) hg (fun k hk e => ?_), ⟨cur2, hb, hs.trans hcur.1, fun j hj => ?_, fun j hj => ?_⟩, hst _ w2 w5 C2 (((Frm.refl _ _).alloc o).grown hg (fun r hr => by injection hr with hr; exact .inr (.inr hr.symm))), (F2.alloc o).grown hg (fun r hr => by injection hr with hr; exact .inr (.inl hr.symm))⟩
  · injection e with e
    have := OwnV.row_ge' G2 hk
    omega
  · rw [List.length_append, List.length_cons, List.length_nil] at hj
    rw [FlV_append, FlV_one]
    have hfl := FlV_length PkC 4 PkC_len lk
    by_cases hj4 : j < lk.length * 4
    · rw [ho j (.inl hj4), hcur.2.1 j hj4, List.getElem?_append_left (by omega)]
    · rw [show j = lk.length * 4 + (j - lk.length * 4) by omega, hn _ (by omega), List.getElem?_append_right (by omega), hfl]
      congr 1
      omega
  · rw [List.length_append, List.length_cons, List.length_nil] at hj
    rw [ho j (.inr (by omega)), hcur.2.2 j (by omega)]
set_option maxRecDepth 100000 in
theorem remove_some (f : Nat) (cb : Array Value) (G : PK → Bool) (C : Nat → World → Prop) (row : Option Nat) (base g gp c : Nat) (l : LG) (w : World) (h : Led w base g (some ⟨gp, 0, none⟩) c l) (HG : Goes f cb l.op G C row w.heap.size gp) (hrg : row ≠ some g) (hC : C 0 w) (hl : l.op.length ≤ 1000000) :
    Calls Try.prog 25 #[.pointer (some ⟨g, 0, none⟩), .func (.func f) #[] cb] w fun e w' => ∃ A1 c1, e = .returned (.slice A1 (l.op.filter G).length c1) ∧ OwnP w' w.heap.size A1 c1 (l.op.filter G) ∧
      Led w' base g (some ⟨gp, 0, none⟩) c ⟨l.op.filter (fun p => !G p), l.nx, l.ak, l.hs⟩ ∧ Frm w w' (fun b => b = g ∨ b = gp ∨ row = some b) := by
  have hgp : gp ≠ g := h.ne gp (by simp [Value.ownBlock])
  obtain ⟨cur0, hB0, hc0, hnc, ht0, hcm⟩ : ∃ cur0, Blk w gp 49 cur0 ∧ cur0.size = c * 4 ∧ l.op.length ≤ c ∧ cur0.toList.take (l.op.length * 4) = FlV PkC l.op ∧ c ≤ maxLen := by
    rcases h.own.2 with ⟨h1, _⟩ | ⟨g', cap, cur, hv, hb, hh, h3, h4, h5, h6⟩
    · injection h1 with h1; cases h1
    · injection hv with e1 _ e3
      injection e1 with e1
      injection e1 with e1
      subst e1 e3
      exact ⟨cur, hh, h5, h3, h6, h4⟩
  have hcell0 : ∀ j, j < l.op.length * 4 → cur0[j]? = (FlV PkC l.op)[j]? := fun j hj => by
    rw [← ht0, List.getElem?_take, if_pos hj]
    simp
  have c0 := h.blk.cell 0
  simp at c0
  have z := h.lt
  have zp := hB0.lt
  have f0 := h.blk.frozen 0
  have HL := Lib.hid h
  have H0 := Lib.hid hB0
  have HC0 := Lib.hid hcell0
  have eg := HG.eg
  clear h hB0 hcell0 ht0
  have R0 : Rm w G C row gp l.op cur0 0 none 0 [] [] w := ⟨rfl, rfl, OwnF.nil _ _, ⟨cur0, H0.out, rfl, (fun j hj => by simp at hj), fun _ _ => rfl⟩, hC, Frm.refl _ _⟩
  go_enter Try.func25, Try.ntmps25
  go_wp2_with fail
  go_loopw [21, 5, 6] (fun i gn lf wr => ∃ (k : Nat) (A1 : Option Addr) (c1 : Nat) (gk lk : List PK), k ≤ l.op.length ∧ i = .int .i64 k ∧ gn = .slice A1 gk.length c1 ∧ lf = .slice (some ⟨gp, 0, none⟩) lk.length c ∧ Rm w G C row gp l.op cur0 k A1 c1 gk lk wr) (fun i _ _ _ => l.op.length - (intOf i).toNat)
  case atStart => exact ⟨0, none, 0, [], [], by omega, rfl, rfl, rfl, R0⟩
  case round =>
    obtain ⟨k, A1, c1, gk, lk, hk, rfl, rfl, rfl, R⟩ := hrel
    clear R0 hC
    have hgl : gk.length ≤ k := by rw [R.eg]; exact filter_len _ _ _
    have hll : lk.length ≤ k := by rw [R.el]; exact filter_len _ _ _
    by_cases hlt : k < l.op.length
    · obtain ⟨p, hx⟩ : ∃ p, l.op[k]? = some p := ⟨_, List.getElem?_eq_getElem hlt⟩
      have hts := take_snoc hx
      obtain ⟨cur, B1, s1, q1, t1⟩ := R.lf
      have hcell : ∀ j, j < 4 → wr.cell? ⟨gp, k * 4 + j, none⟩ = (PkC p)[j]? := fun j hj => by
        rw [B1.cell, t1 _ (by omega), HC0.out _ (by omega)]
        exact FlV_get PkC 4 PkC_len hx hj
      have x0 := hcell 0 (by omega)
      have x1 := hcell 1 (by omega)
      have x2 := hcell 2 (by omega)
      have x3 := hcell 3 (by omega)
      have zgp := B1.lt
      clear hcell
      have hask := HG.ask k p
      have hst := HG.st
      have hrw := HG.rw
      obtain ⟨nu, se, si, aq⟩ := p
      simp [PkC] at x0 x1 x2 x3
      simp only at hask
      obtain ⟨W1, hW1⟩ : ∃ W1, W1 = wr.alloc (.cells #[.int .u64 nu, .int .u64 se, .int .i64 si, .bool aq] 49) := ⟨_, rfl⟩
      have KB1 : Blk W1 wr.heap.size 49 #[.int .u64 nu, .int .u64 se, .int .i64 si, .bool aq] := by rw [hW1]; exact Blk.new wr _ _
      have C1 : C k W1 := hst k wr W1 R.st (by rw [hW1]; exact (Frm.refl _ _).alloc _)
      have F1 : Frm w W1 (fun b => b = gp ∨ row = some b) := by rw [hW1]; exact R.fr.alloc _
      have hz1 := R.fr.size
      have G1 : OwnP W1 w.heap.size A1 c1 gk := by rw [hW1]; exact OwnV.below R.gn ((Below.refl _ _).alloc (Nat.le_refl _) _)
      have L1 : Blk W1 gp 49 cur := by rw [hW1]; exact B1.alloc _
      have zk := KB1.lt
      have k0 := KB1.cell 0
      have k1 := KB1.cell 1
      have k2 := KB1.cell 2
      have k3 := KB1.cell 3
      simp at k0 k1 k2 k3
      have HR := Lib.hid R
      have HK1 := Lib.hid KB1
      have HF1 := Lib.hid F1
      have HG1 := Lib.hid G1
      have HL1 := Lib.hid L1
      have HCUR := Lib.hid (And.intro s1 (And.intro q1 t1))
      have HASK := Lib.hid (hask W1 hx C1)
      have HST := Lib.hid hst
      have HRW := Lib.hid hrw
      have HTS := Lib.hid hts
      clear R B1 s1 q1 t1 hask hst hrw hts KB1 F1 G1 L1 C1
      go_wp2_with fail
      rw [← hW1]
      clear x0 x1 x2 x3 hW1
      go_wp2_with fail
      refine HASK.out.mono ?_
      rintro e w2 ⟨rfl, C2, g2⟩
      have hN := HF1.out.size
      have KB2 := HK1.out.grown g2 (fun e => by have := (HRW.out _ e.symm).1; omega)
      have L2 := HL1.out.grown g2 (fun e => (HRW.out _ e.symm).2 rfl)
      have G2 := OwnV.apart HG1.out g2 (fun k hk e => by have := (HRW.out _ e).1; have := OwnV.row_ge' HG1.out hk; omega)
      have F2 := HF1.out.grown g2 (fun r hr => .inr (.inr hr))
      clear k0 k1 k2 k3 zk
      have k0 := KB2.cell 0
      have k1 := KB2.cell 1
      have k2 := KB2.cell 2
      have k3 := KB2.cell 3
      simp at k0 k1 k2 k3
      have zk := KB2.lt
      have hz2 := F2.size
      have hcs : lk.length + 1 ≤ c := by omega
      have hcz : cur.size = c * 4 := by rw [HCUR.out.1]; exact hc0
      by_cases hG : G ⟨nu, se, si, aq⟩ = true
      · have HC2 := Lib.hid C2
        have HL2 := Lib.hid L2
        have HG2 := Lib.hid G2
        have HF2 := Lib.hid F2
        have HGG := Lib.hid hG
        rw [hG]
        clear C2 L2 G2 F2 hG KB2 g2
        go_wp2_with (at_builtin; go_must (refine wpList_appV2 rfl (.tmp 28) (.tmp 30) 36 49 4 32 (.agg #[.int .u64 0, .int .u64 0, .int .i64 0, .bool false]) rfl Try.underlying36 info_pk rfl (by omega) w.heap.size (n := gk.length) (m := 1) (xs := FlV PkC gk) (news := PkC ⟨nu, se, si, aq⟩) (d := 1) rfl rfl (OwnV.below HG2.out ((Below.refl _ _).alloc (Nat.le_refl _) _)) (reads_pk w2 ⟨nu, se, si, aq⟩ 49) (PkC_one _) (by unfold maxLen; omega) (by omega) (by simp; omega) ?_; intro A2 c2 w5 hown hg hb5 hrow))
        have RR := Rm.gone _ HR.out.eg HR.out.el HTS.out HGG.out HST.out HC2.out HF2.out HG2.out HL2.out HCUR.out hown hg zp
        go_roundw
        case rel => exact ⟨k + 1, A2, c2, gk ++ [⟨nu, se, si, aq⟩], lk, by omega, by go_num, by simp, rfl, RR⟩
        case measure => simp [intOf]; omega
      · have hG' : G ⟨nu, se, si, aq⟩ = false := by simpa using hG
        have HC2 := Lib.hid C2
        have HL2 := Lib.hid L2
        have HG2 := Lib.hid G2
        have HF2 := Lib.hid F2
        have HGG := Lib.hid hG'
        rw [hG']
        clear C2 L2 G2 F2 hG hG' KB2 g2
        go_wp2_with (at_builtin; go_must (refine wpList_pkIn rfl (.tmp 32) (.tmp 34) rfl (gp := gp) (n := lk.length) (cap := c) (d := 1) ⟨nu, se, si, aq⟩ rfl rfl (HL2.out.alloc _) (reads_pk w2 ⟨nu, se, si, aq⟩ 49) hcs hcz ?_; intro w5 cur2 hb5 hs5 hn5 ho5 hg))
        have RR := Rm.left _ HR.out.eg HR.out.el HTS.out HGG.out HST.out HC2.out HF2.out HG2.out HCUR.out hb5 hs5 hn5 ho5 hg zp
        go_roundw
        case rel => exact ⟨k + 1, A1, c1, gk, lk ++ [⟨nu, se, si, aq⟩], by omega, by go_num, rfl, by simp, RR⟩
        case measure => simp [intOf]; omega
    · have hd : decide (k < l.op.length) = false := by simpa using hlt
      have hk2 : l.op.take k = l.op := List.take_of_length_le (by omega)
      obtain ⟨cur, B1, s1, q1, t1⟩ := R.lf
      have F1 := R.fr
      have hz1 := F1.size
      have KL := F1.keep HL.out.blk (by
        rintro (h1 | h1)
        · exact hgp h1.symm
        · exact hrg h1)
      have c0' := KL.cell 0
      have f0' := KL.frozen 0
      have z' := KL.lt
      simp at c0'
      have egk : gk = l.op.filter G := by rw [R.eg, hk2]
      have elk : lk = l.op.filter (fun p => !G p) := by rw [R.el, hk2]
      have HGK := Lib.hid egk
      have HLK := Lib.hid elk
      have HR := Lib.hid R
      have HKL := Lib.hid KL
      have HB1 := Lib.hid B1
      have HCUR := Lib.hid (And.intro s1 q1)
      have HF1 := Lib.hid F1
      clear egk elk R KL B1 s1 q1 t1 F1 hk2 c0 f0
      go_wp2_with fail
      go_ret
      have hcz : cur.size = c * 4 := by rw [HCUR.out.1]; exact hc0
      have hbase : base ≤ gp := OwnV.row_ge' HL.out.own (by simp [Value.ownBlock])
      refine ⟨A1, c1, by rw [← HGK.out]; rfl, ?_, ⟨?_, ?_, HL.out.le⟩, ?_⟩
      · rw [← HGK.out]
        exact OwnV.apart HR.out.gn (gb_set (gb_refl _ _) (p := ⟨g, 0, none⟩) rfl _) (fun k hk e => by
          have e : g = k := by injection e
          have := OwnV.row_ge' HR.out.gn hk; have := HL.out.lt; omega)
      · rw [← HLK.out]
        have := Blk.set_ HKL.out 0 (.slice (some ⟨gp, 0, none⟩) lk.length c)
        simpa using this
      · rw [← HLK.out]
        refine ⟨FlV_length PkC 4 PkC_len lk, .inr ⟨gp, c, cur, rfl, hbase, HB1.out.far (by simpa using hgp) _, by simp only; omega, hcm, hcz, ?_⟩⟩
        apply List.ext_getElem?
        intro j
        rw [List.getElem?_take]
        by_cases hj : j < lk.length * 4
        · rw [if_pos hj]
          have := HCUR.out.2 j hj
          simpa using this
        · have h9 : (FlV PkC lk)[j]? = none := List.getElem?_eq_none (by rw [FlV_length PkC 4 PkC_len]; omega)
          rw [if_neg hj, h9]
      · exact (HF1.out.mono (fun b _ hb => hb.elim (fun h => .inr (.inl h)) (fun h => .inr (.inr h)))).set (p := ⟨g, 0, none⟩) (.inr (.inl rfl)) _
end Go.Proofs.Ytefhbiocddgijaa
