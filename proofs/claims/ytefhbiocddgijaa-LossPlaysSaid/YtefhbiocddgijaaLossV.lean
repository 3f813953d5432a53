/-
  slices.Backward at packets; the ledger: Last.
-/
import Derived.Test.YtefhbiocddgijaaLossU
import Derived.Test.YtefhbiocddgijaaSeqR
namespace Go.Proofs.Ytefhbiocddgijaa
open Go.RowKit Go.Shelf
set_option linter.unusedVariables false
set_option linter.unusedSimpArgs false
attribute [local go_sem] Oper.semAt_some
/-- What slices.Backward yields. -/
def bwL (l : List PK) : List (Int × PK) := l.reverse.zipIdx.map (fun q => ((l.length : Int) - 1 - q.2, q.1))
theorem bwL_len (l : List PK) : (bwL l).length = l.length := by simp [bwL]
theorem bwL_at {l : List PK} {k j : Nat} (h : k + (j + 1) = l.length) {p : PK} (hx : l[j]? = some p) : (bwL l)[k]? = some ((j : Int), p) := by
  unfold bwL
  rw [List.getElem?_map, List.getElem?_zipIdx, List.getElem?_reverse (by omega), show l.length - 1 - k = j by omega, hx]
  simp
  omega
def bwE (x : Int × PK) : Array Value := #[.int .i64 x.1, .agg #[.int .u64 x.2.nu, .int .u64 x.2.se, .int .i64 x.2.si, .bool x.2.aq]]
set_option maxRecDepth 100000 in
set_option maxHeartbeats 2000000 in
theorem bwd1_in (F : Fence) (n : Nat) (h7 : F.fn 41) (hro : F.round = none) (hn : 1 ≤ n) (l Bs n₀ B : Nat) (A : Option Addr) (c : Nat) (op : List PK) (hreach : op.length ≤ 1000000)
    (J Jx : List (Int × PK) → World → Prop) (hJ : AbidesFrom B J)
    (hY : ∀ pre x W, J pre W → pre.length < op.length → YieldAt F (n - 1) Try.prog l (bwE x) W fun e W' =>
      (e = .returned (.bool true) ∧ J (pre ++ [x]) W' ∧ Below n₀ W W') ∨ (e = .returned (.bool false) ∧ Jx (pre ++ [x]) W'))
    (W : World) (hn0 : n₀ ≤ W.heap.size) (hBn : Bs < n₀) (hBs : W.cell? ⟨Bs, 0, none⟩ = some (.slice A op.length c)) (hc : Reads W n₀ 4 A op.length (FlV PkC op)) (h0 : J [] W) :
    CallsIn F n Try.prog 41 #[.func (.yield l) #[] #[], .pointer (some ⟨Bs, 0, none⟩)] W fun e W' => (∃ v, e = .returned v) ∧
      ((∃ ys, ys = bwL op ∧ J ys W') ∨ (∃ pre, pre <+: bwL op ∧ Jx pre W')) := by
  refine callsIn_of_wp Try.func41 rfl h7 ?_ hro
  simp only [Try.ntmps41, List.size_toArray, List.length_cons, List.length_nil, Nat.reduceAdd, Nat.reduceSub, Array.replicate_succ, Array.replicate_zero, List.push_toArray, List.append_toArray, List.nil_append, List.cons_append]
  gi_wp2
  gi_loopw [3] (fun i wr => ∃ k j : Nat, k + j = op.length ∧ i = .int .i64 ((j : Int) - 1) ∧ J ((bwL op).take k) wr ∧ Below n₀ W wr)
    (fun i _ => (intOf i + 1).toNat)
  case atStart => exact ⟨0, op.length, by omega, by go_num, by simpa using h0, Below.refl _ _⟩
  case round =>
    obtain ⟨k, j, hkj, rfl, hJs, hnx⟩ := hrel
    cases j with
    | succ j =>
      have hx : op[j]? = some op[j] := List.getElem?_eq_getElem (by omega)
      obtain ⟨p, hp⟩ : ∃ p, p = op[j] := ⟨_, rfl⟩
      rw [← hp] at hx
      clear hp
      obtain ⟨b, off, x, rfl, hb, hx2, hcell⟩ := RdF.at_ PkC_len (by omega) (hc.below hnx) (i := j) (by omega)
      rw [hx] at hx2
      injection hx2 with hx2
      subst hx2
      have hat := bwL_at hkj hx
      have x0 := hcell 0 (by omega)
      have x1 := hcell 1 (by omega)
      have x2 := hcell 2 (by omega)
      have x3 := hcell 3 (by omega)
      clear hcell
      obtain ⟨nu, se, si, aq⟩ := p
      simp [PkC] at x0 x1 x2 x3
      rw [← Nat.add_assoc] at x1 x2 x3
      have hsl := (hnx.cell (p := ⟨Bs, 0, none⟩) hBn).trans hBs
      have htk := take_snoc hat
      obtain ⟨fn, tmps, assign, body, hy, hR⟩ := hY ((bwL op).take k) ((j : Int), ⟨nu, se, si, aq⟩) wr hJs (by simp [bwL_len]; omega)
      have ej : (((j + 1 : Nat) : Int) - 1) = (j : Int) := by omega
      rw [ej]
      have HT := Lib.hid htk
      have HJ := Lib.hid hkj
      have hjl : j < op.length := by omega
      clear htk hat hx ej hkj hJs
      have hsz := hnx.size
      have hj0 : decide (0 ≤ (j : Int)) = true := by simp
      unfold bwE at hy
      simp only at hy
      gi_wp2
      refine hR.mono ?_
      rintro e W3 (⟨rfl, hJ3, hk3⟩ | ⟨rfl, hJx3⟩)
      · have HJ3 := Lib.hid hJ3
        have HK3 := Lib.hid hk3
        clear hJ3 hk3 hR hy
        gi_wp2
        go_roundw
        case rel => exact ⟨k + 1, j, by have := HJ.out; omega, by go_num, by rw [HT.out]; exact HJ3.out, hnx.trans HK3.out⟩
        case measure => simp [intOf]
      · gi_wp2
        refine bodyPost_ret (results_none rfl _ _ _) rfl ?_
        exact ⟨⟨_, rfl⟩, .inr ⟨_, by rw [← HT.out]; exact List.take_prefix _ _, hJx3⟩⟩
    | zero =>
      gi_wp2
      go_end0
      exact ⟨⟨_, rfl⟩, .inl ⟨_, rfl, by rw [List.take_of_length_le (by rw [bwL_len]; omega)] at hJs; exact hJs⟩⟩
theorem bwd_stops (F : Fence) (n : Nat) (h7 : F.fn 41) (hro : F.round = none) (hn : 1 ≤ n) (Bs n₀ : Nat) (A : Option Addr) (c : Nat) (op : List PK) (hreach : op.length ≤ 1000000) (w : World) (hBs : Bs < n₀) (hn₀ : n₀ ≤ w.heap.size)
    (hc : w.cell? ⟨Bs, 0, none⟩ = some (.slice A op.length c)) (hI : Reads w n₀ 4 A op.length (FlV PkC op)) :
    SeqStopsK F n Try.prog 41 #[.pointer (some ⟨Bs, 0, none⟩)] bwE (Below n₀) (fun ys => ys = bwL op) (fun pre => pre <+: bwL op) op.length w := fun l J Jx W hW hJ _ hY h0 =>
  bwd1_in F n h7 hro hn l Bs n₀ _ A c op hreach J Jx hJ hY W (Nat.le_trans hn₀ hW.size) hBs ((hW.cell (p := ⟨Bs, 0, none⟩) (by simp; omega)).trans hc) (hI.below (hW.mono hn₀)) h0
set_option maxRecDepth 100000 in
theorem backward_in (F : Fence) (n : Nat) (h : F.fn 35) (hro : F.round = none) (a : Option Addr) (len cap : Nat) (w : World) :
    CallsIn F n Try.prog 35 #[.slice a len cap] w fun e w' => e = .returned (.func (.func 41) #[] #[.pointer (some ⟨w.heap.size, 0, none⟩)]) ∧ w' = w.alloc (.cells #[.slice a len cap] 36) := by
  refine callsIn_of_wp Try.func35 rfl h ?_ hro
  simp only [Try.ntmps35, List.size_toArray, List.length_cons, List.length_nil, Nat.reduceAdd, Nat.reduceSub, Array.replicate_succ, Array.replicate_zero, List.push_toArray, List.append_toArray, List.nil_append, List.cons_append]
  gi_wp2
  refine bodyPost_ret (results_tmp rfl _ _ _) rfl ⟨rfl, rfl⟩
theorem bwL_snd (l : List PK) : (bwL l).map (·.2) = l.reverse := by
  unfold bwL
  rw [List.map_map]
  exact List.zipIdx_map_fst 0 l.reverse
theorem last_some {l : List PK} {pre0 : List (Int × PK)} {q : Int × PK} (h : pre0 ++ [q] <+: bwL l) (h0 : ∀ z ∈ pre0, z.2.aq = false) (hq : q.2.aq = true) : l.reverse.find? (·.aq) = some q.2 := by
  obtain ⟨t, ht⟩ := h
  rw [← bwL_snd, ← ht, List.map_append, List.map_append, List.append_assoc, List.find?_append]
  have : (pre0.map (·.2)).find? (·.aq) = none := by
    rw [List.find?_eq_none]
    intro x hx
    obtain ⟨z, hz, rfl⟩ := List.mem_map.1 hx
    rw [h0 z hz]; simp
  rw [this]
  simp [hq]
theorem last_none {l : List PK} (h0 : ∀ z ∈ bwL l, z.2.aq = false) : l.reverse.find? (·.aq) = none := by
  rw [← bwL_snd, List.find?_eq_none]
  intro x hx
  obtain ⟨z, hz, rfl⟩ := List.mem_map.1 hx
  rw [h0 z hz]; simp
structure BxI (w : World) (N0 : Nat) (u b : Value) (W : World) : Prop where
  b2 : Blk W w.heap.size 28 #[u]
  b3 : Blk W (w.heap.size + 1) 4 #[b]
  bel : Below w.heap.size w W
  sz : N0 ≤ W.heap.size
structure LIv (w : World) (N0 : Nat) (pre : List (Int × PK)) (W : World) : Prop where
  no : ∀ q ∈ pre, q.2.aq = false
  bx : BxI w N0 (.int .u64 0) (.bool false) W
structure LXv (w : World) (N0 : Nat) (pre : List (Int × PK)) (W : World) : Prop where
  ex : ∃ q, (∃ pre0, pre = pre0 ++ [q] ∧ ∀ z ∈ pre0, z.2.aq = false) ∧ q.2.aq = true ∧ BxI w N0 (.int .u64 q.2.se) (.bool true) W
theorem BxI.own {w : World} {N0 : Nat} {u b : Value} (hN : w.heap.size + 2 ≤ N0) : OwnFrom N0 (fun (_ : Unit) W => BxI w N0 u b W) := fun s X Y row hs hg hr =>
  ⟨Blk.grown hs.b2 hg (fun e => by have := (hr _ e.symm).1; omega), Blk.grown hs.b3 hg (fun e => by have := (hr _ e.symm).1; omega), hs.bel.grown hg hs.bel.size (fun k e => by have := (hr k e).1; omega), Nat.le_trans hs.sz hg.size⟩
theorem BxI.alloc {w W : World} {N0 : Nat} {u b : Value} (h : BxI w N0 u b W) (o : Obj) : BxI w N0 u b (W.alloc o) := ⟨h.b2.alloc o, h.b3.alloc o, h.bel.alloc h.bel.size o, by have := h.sz; simp; omega⟩
theorem BxI.put {w W : World} {N0 : Nat} {u b : Value} (h : BxI w N0 u b W) (u' b' : Value) : BxI w N0 u' b' ((W.setCell ⟨w.heap.size, 0, none⟩ u').setCell ⟨w.heap.size + 1, 0, none⟩ b') := by
  have K2 := (h.b2.set_ 0 u').far (p := ⟨w.heap.size + 1, 0, none⟩) (by simp) b'
  have K3 := (h.b3.far (p := ⟨w.heap.size, 0, none⟩) (by simp) u').set_ 0 b'
  exact ⟨by simpa using K2, by simpa using K3, (h.bel.setCell (p := ⟨w.heap.size, 0, none⟩) (by simp) _).setCell (p := ⟨w.heap.size + 1, 0, none⟩) (by simp) _, by simpa using h.sz⟩
def lastA (l : List PK) : Option PK := l.reverse.find? (·.aq)
set_option maxRecDepth 100000 in
set_option maxHeartbeats 2000000 in
theorem last_in (F : Fence) (n : Nat) (h4 : F.fn 20) (h5 : F.fn 35) (h6 : F.fn 41) (hro : F.round = none) (hn : 3 ≤ n)
    (base g : Nat) (A : Option Addr) (c : Nat) (l : LG) (w : World) (h : Led w base g A c l) (hl : l.op.length ≤ 1000000) :
    CallsIn F n Try.prog 20 #[.pointer (some ⟨g, 0, none⟩)] w fun r w' => r = .returned (.tuple #[.int .u64 (((lastA l.op).map (·.se)).getD 0), .bool (lastA l.op).isSome]) ∧ Below w.heap.size w w' := by
  have h1 : 1 ≤ n := by omega
  have c0 := h.blk.cell 0
  simp at c0
  have hgz := h.lt
  have HL := Lib.hid h
  clear h
  refine callsIn_of_wp_marks Try.func20 rfl h4 ?_ hro
  simp only [Try.ntmps20, List.size_toArray, List.length_cons, List.length_nil, Nat.reduceAdd, Nat.reduceSub, Array.replicate_succ, Array.replicate_zero, List.push_toArray, List.append_toArray, List.nil_append, List.cons_append]
  gi_wp2_with (gi_at_call 35; refine (backward_in F (n - 1) h5 hro _ _ _ _).mono ?_; rintro e w' ⟨rfl, rfl⟩)
  obtain ⟨W0, hW0⟩ : ∃ W0, W0 = ((w.alloc (.cells #[.int .u64 0] 28)).alloc (.cells #[.bool false] 4)).alloc (.cells #[.slice A l.op.length c] 36) := ⟨_, rfl⟩
  have hz0 : W0.heap.size = w.heap.size + 3 := by rw [hW0]; simp
  have hB0 : Below w.heap.size w W0 := by rw [hW0]; exact (((Below.refl _ w).alloc (Nat.le_refl _) _).alloc (by simp) _).alloc (by simp; omega) _
  have k2 : Blk W0 w.heap.size 28 #[.int .u64 0] := by rw [hW0]; exact ((Blk.new w _ _).alloc _).alloc _
  have k3 : Blk W0 (w.heap.size + 1) 4 #[.bool false] := by
    rw [hW0]
    have h := Blk.new (w.alloc (.cells #[.int .u64 0] 28)) 4 #[.bool false]
    rw [show (w.alloc (.cells #[.int .u64 0] 28)).heap.size = w.heap.size + 1 by simp] at h
    exact h.alloc _
  have ks : W0.cell? ⟨w.heap.size + 1 + 1, 0, none⟩ = some (.slice A l.op.length c) := by
    have h := (Blk.new ((w.alloc (.cells #[.int .u64 0] 28)).alloc (.cells #[.bool false] 4)) 36 #[.slice A l.op.length c]).cell 0
    rw [show ((w.alloc (.cells #[.int .u64 0] 28)).alloc (.cells #[.bool false] 4)).heap.size = w.heap.size + 1 + 1 by simp] at h
    rw [hW0]
    simpa using h
  have hrd : Reads W0 W0.heap.size 4 A l.op.length (FlV PkC l.op) := OwnF.reads (OwnV.below HL.out.own hB0)
  rw [← hW0]
  clear hW0
  have HB0 := Lib.hid (show BxI w W0.heap.size (.int .u64 0) (.bool false) W0 from ⟨k2, k3, hB0, Nat.le_refl _⟩)
  have hN : w.heap.size + 2 ≤ W0.heap.size := by omega
  clear k2 k3 hB0
  refine wpIn_rangeFunc_ownH hro h1 (gf := 41) (lb := #[.pointer (some ⟨w.heap.size + 1 + 1, 0, none⟩)]) rfl h6 (enters_of Try.func41 (by kernel_rfl) rfl)
    (bwd_stops F (n - 1) h6 hro (by omega) (w.heap.size + 1 + 1) W0.heap.size A c l.op hl W0 (by omega) (Nat.le_refl _) ks hrd) belowK_t (belowK_b (Nat.le_refl _)) (Below.refl _ _) (fun _ => rfl)
    (fun pre W => LIv w W0.heap.size pre W)
    (fun cd pre W => cd = .ret ∧ LXv w W0.heap.size pre W)
    (fun s X Y row hs hg hr => ⟨hs.no, BxI.own hN () X Y row hs.bx hg hr⟩)
    (fun cd s X Y row hs hg hr => ⟨hs.1, ⟨by obtain ⟨q, q1, q2, q3⟩ := hs.2.ex; exact ⟨q, q1, q2, BxI.own hN () X Y row q3 hg hr⟩⟩⟩)
    ⟨fun q hq => by simp at hq, HB0.out⟩
    (fun x a' W => ∃ Bx, w.heap.size + 1 < Bx ∧ Blk W Bx 49 #[.int .u64 x.2.nu, .int .u64 x.2.se, .int .i64 x.2.si, .bool x.2.aq] ∧ a' = { tmps := #[.pointer (some ⟨g, 0, none⟩), undef, .pointer (some ⟨w.heap.size, 0, none⟩), .pointer (some ⟨w.heap.size + 1, 0, none⟩), undef, .pointer (some ⟨Bx, 0, none⟩), .pointer (some ⟨g, 0, none⟩), .bool false, .pointer (some ⟨g, 0, none⟩), .pointer (some ⟨g, 0, none⟩), .pointer (some ⟨g, 0, none⟩), .slice A l.op.length c, .func (.func 41) #[] #[.pointer (some ⟨w.heap.size + 1 + 1, 0, none⟩)], .int .i64 x.1, .agg #[.int .u64 x.2.nu, .int .u64 x.2.se, .int .i64 x.2.si, .bool x.2.aq], undef, undef, undef, undef], defers := [] })
    (fun x a' _ X Y row hs hg hr => by obtain ⟨Bx, q1, q2, q3⟩ := hs; exact ⟨Bx, q1, blk_own (fun (_ : Unit) => Bx) 49 (fun _ => #[.int .u64 x.2.nu, .int .u64 x.2.se, .int .i64 x.2.si, .bool x.2.aq]) () X Y row q2 hg (fun r e => (hr r e).2), q3⟩)
    ?assign ?body ?done ?stop
  case assign =>
    rintro ll pre x W K hI hK
    have hzw := hI.bx.b3.lt
    unfold bwE
    gi_wp2
    exact hK _ _ ((KeepsOthers.alloc _ _).from _) ((Below.refl _ W).alloc hI.bx.sz _) ⟨hI.no, hI.bx.alloc _⟩ ⟨W.heap.size, hzw, Blk.new W _ _, rfl⟩
  case body =>
    rintro ll pre x a' W hll _ hI ⟨Bx, hBx, bX, rfl⟩ hlt
    obtain ⟨ix, nu, se, si, aq⟩ := x
    have x1 := bX.cell 1
    have x3 := bX.cell 3
    simp at x1 x3
    have HI := Lib.hid hI
    clear hz0 hN
    cases aq with
    | true =>
      have d2 := hI.bx.b2.cell 0
      have d3 := hI.bx.b3.cell 0
      have f2 := hI.bx.b2.frozen 0
      have f3 := hI.bx.b3.frozen 0
      have z3 := hI.bx.b3.lt
      simp at d2 d3
      clear hI
      gi_wp2
      exact ⟨((KeepsOthers.setCell _ _ _).trans (KeepsOthers.setCell _ _ _)).from _, rfl, ⟨⟨(ix, ⟨nu, se, si, true⟩), ⟨pre, rfl, HI.out.no⟩, rfl, HI.out.bx.put _ _⟩⟩⟩
    | false =>
      clear hI
      gi_wp2
      exact ⟨(KeepsOthers.refl _).from _, Below.refl _ _, ⟨fun q hq => by
        rcases List.mem_append.1 hq with h | h
        · exact HI.out.no q h
        · simp at h; subst h; rfl, HI.out.bx⟩⟩
  case done =>
    rintro D ys W hD rfl hI hK
    have d2 := hI.bx.b2.cell 0
    have d3 := hI.bx.b3.cell 0
    have f2 := hI.bx.b2.frozen 0
    have f3 := hI.bx.b3.frozen 0
    have z3 := hI.bx.b3.lt
    simp at d2 d3
    have HI := Lib.hid hI
    have hDw : w.heap.size ≤ D := by omega
    clear hI hz0 hN
    gi_wp2
    have hK' := ((KeepsOthers.setCell W ⟨w.heap.size, 0, none⟩ (.int .u64 0)).trans (KeepsOthers.setCell _ ⟨w.heap.size + 1, 0, none⟩ (.bool false))).same D _ hK rfl
    have HP := HI.out.bx.put (.int .u64 0) (.bool false)
    refine ⟨by simp, .inl ⟨_, _, rfl, run_takeDeferred hK', ?_⟩⟩
    have e2 := HP.b2.cell 0
    have e3 := HP.b3.cell 0
    simp at e2 e3
    have hc2 := cell_kept e2 (grownBy_putObj' _ D (.deferred none)) (fun r e => by cases e; exact ⟨_, hK', rfl⟩)
    have hc3 := cell_kept e3 (grownBy_putObj' _ D (.deferred none)) (fun r e => by cases e; exact ⟨_, hK', rfl⟩)
    refine ⟨.tuple #[.int .u64 0, .bool false], ?_, ?_, HP.bel.trans (belowK_b (w := w) (Nat.le_refl _) _ D _ _ (by omega) hK' rfl rfl)⟩
    · simp [results, Try.f20, go_sem, hc2, hc3]
    · unfold lastA; rw [last_none HI.out.no]; rfl
  case stop =>
    rintro D cd pre W hD hpre ⟨rfl, hX⟩ hK
    obtain ⟨q, ⟨pre0, hpq, hp0⟩, hq, hbx⟩ := hX.ex
    have d2 := hbx.b2.cell 0
    have d3 := hbx.b3.cell 0
    simp at d2 d3
    have HBX := Lib.hid hbx
    have hDw : w.heap.size ≤ D := by omega
    clear hz0 hN hX hbx
    gi_wp2
    refine ⟨by simp, .inl ⟨_, _, rfl, run_takeDeferred hK, ?_⟩⟩
    have hc2 := cell_kept d2 (grownBy_putObj' _ D (.deferred none)) (fun r e => by cases e; exact ⟨_, hK, rfl⟩)
    have hc3 := cell_kept d3 (grownBy_putObj' _ D (.deferred none)) (fun r e => by cases e; exact ⟨_, hK, rfl⟩)
    refine ⟨.tuple #[.int .u64 q.2.se, .bool true], ?_, ?_, HBX.out.bel.trans (belowK_b (w := w) (Nat.le_refl _) W D _ _ (by omega) hK rfl rfl)⟩
    · simp [results, Try.f20, go_sem, hc2, hc3]
    · subst hpq
      unfold lastA; rw [last_some hpre hp0 hq]; rfl
theorem LLast_any (base g : Nat) (A : Option Addr) (c : Nat) (l : LG) (w : World) (h : Led w base g A c l) (hl : l.op.length ≤ 1000000) :
    Calls Try.prog 20 #[.pointer (some ⟨g, 0, none⟩)] w fun r w' => r = .returned (.tuple #[.int .u64 (((lastA l.op).map (·.se)).getD 0), .bool (lastA l.op).isSome]) ∧ Below w.heap.size w w' :=
  (callsIn_wide (n := 3)).1 (last_in Fence.wide 3 trivial trivial trivial rfl (by omega) base g A c l w h hl)
theorem LLast_nil (w : World) : Calls Try.prog 20 #[.pointer none] w fun r w' => r = .returned (.tuple #[.int .u64 0, .bool false]) ∧ Below w.heap.size w w' := by
  have k2 := ((Blk.new w 28 #[.int .u64 0]).alloc (.cells #[.bool false] 4)).cell 0
  have k3 := (Blk.new (w.alloc (.cells #[.int .u64 0] 28)) 4 #[.bool false]).cell 0
  rw [show (w.alloc (.cells #[.int .u64 0] 28)).heap.size = w.heap.size + 1 by simp] at k3
  simp at k2 k3
  have K2 := Lib.hid k2
  have K3 := Lib.hid k3
  clear k2 k3
  go_enter Try.func20, Try.ntmps20
  go_wp2_with fail
  have k2 := K2.out
  have k3 := K3.out
  refine bodyPost_ret (v := .tuple #[.int .u64 0, .bool false]) ?_ rfl ⟨rfl, ((Below.refl _ _).alloc (Nat.le_refl _) _).alloc (by simp) _⟩
  simp [results, Try.f20, go_sem, k2, k3]
end Go.Proofs.Ytefhbiocddgijaa
