/-
  QuiltWhole: the walk.
-/
import Derived.Test.YtdafeokjedmnkaaDoorWholeB
namespace Go.Proofs.YtdafeokjedmnkaaDoor
open Go.RowKit Go.Maps
set_option linter.unusedVariables false
set_option linter.unusedSimpArgs false
theorem info_piece : (Tryd.prog.info? 54).map (fun i => (i.zero, i.size, i.bytes)) = some (some (.agg #[.int .u64 0, .slice none 0 0, .bool false]), 3, 40) := by kernel_rfl
theorem reads_new (w : World) (E : TypeId) (cs : List Value) : Reads (w.alloc (.cells cs.toArray E)) (w.alloc (.cells cs.toArray E)).heap.size cs.length (some ⟨w.heap.size, 0, none⟩) 1 cs := by
  refine ⟨by simp, fun _ => ⟨_, rfl, by simp, fun j u hu => ?_⟩⟩
  have h := (Blk.new w E cs.toArray).cell j
  rw [show (⟨w.heap.size, 0, none⟩ : Addr).add j = ⟨w.heap.size, j, none⟩ by rw [add_none, Nat.zero_add], h]
  simpa using hu
def PV (ps : List Piece) : List Value := ps.flatMap PieceC
theorem PV_snoc (ps : List Piece) (p : Piece) : PV (ps ++ [p]) = PV ps ++ PieceC p := by simp [PV]
theorem PV_len (ps : List Piece) : (PV ps).length = ps.length * 3 := by
  induction ps with
  | nil => rfl
  | cons p ps ih =>
    show (PieceC p ++ PV ps).length = _
    rw [List.length_append, ih, List.length_cons]
    simp [PieceC]
    omega
theorem PV_one (ps : List Piece) : ∀ u ∈ PV ps, u.oneCell' = true := by
  intro u hu
  simp [PV, PieceC] at hu
  obtain ⟨p, _, h⟩ := hu
  rcases h with rfl | rfl | rfl <;> rfl
theorem PV_at : ∀ (ps : List Piece) (j i : Nat) (p : Piece), ps[j]? = some p → i < 3 → (PV ps)[j * 3 + i]? = (PieceC p)[i]?
  | [], j, i, p, h, _ => by simp at h
  | q :: ps, 0, i, p, h, hi => by
    simp at h
    subst h
    show (PieceC q ++ PV ps)[0 * 3 + i]? = _
    rw [List.getElem?_append_left (by simp [PieceC]; omega)]
    simp
  | q :: ps, j + 1, i, p, h, hi => by
    have := PV_at ps j i p (by simpa using h) hi
    show (PieceC q ++ PV ps)[(j + 1) * 3 + i]? = _
    rw [List.getElem?_append_right (by simp [PieceC]; omega), ← this]
    congr 1
    simp [PieceC]
    omega
/-- 'p[j:k]', written out. -/
theorem slice_both_is (A : Option Addr) (c n j k : Nat) (kd kd' : IntKind) (z z' : Int) (hz : z = j) (hz' : z' = k) (hj : j ≤ k) (hk : k ≤ n) (hc : n ≤ c) (w : World) :
    (Instr.slice 29 (.slice A n c) (some (.int kd z)) (some (.int kd' z')) none).run Tryd.prog w = .ok (.slice (if c = j then A else A.map (·.add (j * 1))) (k - j) (c - j)) w := by
  subst hz hz'
  rw [run_slice_lh (P := Tryd.prog) w 29 A n c (by rw [elem_u8]; exact Tryd.underlying29) kd kd' (j : Int) (k : Int) (by omega) (by omega) (by omega), elem_u8, run_sizeOf_u8]
  simp [sliced]
def cutA (A : Option Addr) (c j : Nat) : Option Addr := if c = j then A else A.map (·.add (j * 1))
theorem cutA_block {A : Option Addr} {c j : Nat} {ad : Addr} (h : cutA A c j = some ad) : ∃ a, A = some a ∧ ad.block = a.block := by
  unfold cutA at h
  by_cases hc : c = j
  · rw [if_pos hc] at h
    exact ⟨ad, h, rfl⟩
  · rw [if_neg hc] at h
    cases A with
    | none => cases h
    | some a =>
      simp at h
      subst h
      exact ⟨a, rfl, block_of_add a j⟩
/-- The text's piece from j on, n bytes long. -/
theorem piece_ok {P : World} {T : List Int} {A : Option Addr} {c : Nat} {b : Nat} (h : Own P b A c T) {j n : Nat} {e : Bool} (h1 : j + n ≤ T.length) (he : e = true → j + n = T.length) : PieceOk P T ⟨j, n, cutA A c j, c - j, e⟩ := by
  have hc := h.cap
  unfold maxLen at hc
  have hr := Rd.of_own h
  refine ⟨?_, by show n ≤ c - j; omega, by show c - j ≤ _; omega, h1, he, fun ad hA => ?_⟩
  · show Rd P (cutA A c j) ((T.drop j).take n)
    exact (hr.cut (by omega) (by omega)).upto (by simp; omega)
  · obtain ⟨a, rfl, hb⟩ := cutA_block hA
    rw [hb]
    rcases OwnV.row_is h with ⟨h0, _⟩ | ⟨r, cur, h0, _, hbl, _⟩
    · cases h0
    · injection h0 with h0
      subst h0
      exact hbl.lt
/-- What a load of piece j reads. -/
theorem piece_at {P : World} {b c n : Nat} {A : Option Addr} {ps : List Piece} (h : OwnV P b 54 3 A c n (PV ps)) {j : Nat} {p : Piece} (hp : ps[j]? = some p) : ∃ r, A = some ⟨r, 0, none⟩ ∧ r < P.heap.size ∧
    P.cell? ⟨r, j * 3, none⟩ = some (.int .u64 (p.off : Int)) ∧ P.cell? ⟨r, j * 3 + 1, none⟩ = some (.slice p.A p.n p.c) ∧ P.cell? ⟨r, j * 3 + 2, none⟩ = some (.bool p.e) := by
  have hj : j < ps.length := by
    rcases Nat.lt_or_ge j ps.length with h | h
    · exact h
    · rw [List.getElem?_eq_none h] at hp; cases hp
  have hl := PV_len ps
  rcases h.row_is with ⟨_, _, _, h0⟩ | ⟨r, cur, rfl, _, hb, htk, _⟩
  · rw [h0] at hl
    simp at hl
    omega
  · have hx : ∀ i, i < 3 → P.cell? ⟨r, j * 3 + i, none⟩ = (PieceC p)[i]? := fun i hi => by
      have h1 := PV_at ps j i p hp hi
      rw [← h1, ← htk, hb.cell]
      rw [List.getElem?_take, if_pos]
      · simp
      · have : (cur.toList.take (n * 3)).length = ps.length * 3 := by rw [htk, hl]
        rw [List.length_take] at this
        omega
    exact ⟨r, rfl, hb.lt, hx 0 (by omega), hx 1 (by omega), hx 2 (by omega)⟩
/-- append of bytes as one of guarded operations, the guard being met. -/
theorem wpList_appX3 {ops : Array Oper} {rest : List Oper} {o : Oper} {a : Act} {w : World} {Q : Exit → Act → World → Prop} (hw : Region.wanted o (yielded ops a.tmps) = true) (s x : Operand)
    (ho : o.op = .call { callee := .builtin .append, args := #[s, x], argTypes := #[29, 29] })
    (base : Nat) {c d : Nat} {A B : Option Addr} {l news : List Int} (X : List Int) (hX : X = l ++ news) (hs : a.eval s = .slice A l.length c) (hx : a.eval x = .slice B news.length d) (hown : Own w base A c l) (hr : Rd w B news)
    (hlen : l.length + news.length ≤ 70368744177664) (hbase : base ≤ w.heap.size)
    (h : ∀ A' c' w', Own w' base A' c' X → w.grownBy w' (Value.slice A l.length c).ownBlock → Below base w w' →
      wpList Tryd.prog ops Q rest (a.put o.dst (.slice A' X.length c')) w') : wpList Tryd.prog ops Q (o :: rest) a w := by
  subst hX
  refine wpList_step fun K hK => ?_
  rw [if_pos hw]
  obtain ⟨A', c', w', hrun, h2, h3⟩ := run_app w o.type (d := d) hown hr hlen hbase
  unfold Oper.wp execOp
  simp only [ho, resolve, invoke, builtin, Sem.run_bind, Sem.run_pure, Result.andThen_ok, List.map_toArray, List.map_cons, List.map_nil, hs, hx, hrun]
  have := hK _ _ (h A' c' w' h2 h3 ((Below.refl _ _).grown h3 hbase hown.row_ge))
  rwa [List.length_append] at this
theorem piece_in {P W : World} {b c n r : Nat} {ps : List Piece} (h : OwnV P b 54 3 (some ⟨r, 0, none⟩) c n (PV ps)) (hb : Below P.heap.size P W) {j : Nat} {p : Piece} (hp : ps[j]? = some p) :
    W.cell? ⟨r, j * 3, none⟩ = some (.int .u64 (p.off : Int)) ∧ W.cell? ⟨r, j * 3 + 1, none⟩ = some (.slice p.A p.n p.c) ∧ W.cell? ⟨r, j * 3 + 2, none⟩ = some (.bool p.e) := by
  obtain ⟨r', e, hlt, h0, h1, h2⟩ := piece_at h hp
  injection e with e
  injection e with e
  subst e
  exact ⟨(hb.cell hlt).trans h0, (hb.cell hlt).trans h1, (hb.cell hlt).trans h2⟩
set_option maxRecDepth 100000 in
set_option maxHeartbeats 1600000 in
theorem whole_walk (A : Option Addr) (ca : Nat) (a : List Int) (B : Option Addr) (cb : Nat) (b : List Int) (C : Option Addr) (cc : Nat) (o : List Int) (st : Int) (w : World) (ht : TabT w)
    (ra : Rd w A a) (ba : Bytes a) (la : a.length ≤ ca) (ma : ca ≤ 9223372036854775807) (na : A = none → ca = 0)
    (rb : Rd w B b) (bb : Bytes b) (lb : b.length ≤ cb) (mb : cb ≤ 9223372036854775807) (nb : B = none → cb = 0)
    (rc : Rd w C o) (bc : Bytes o) (lc : o.length ≤ cc) (mc : cc ≤ 9223372036854775807) (nc : C = none → cc = 0) (ws : (Lit.int .u8 st).wf = true) :
    Calls Tryd.prog 4 #[.slice A a.length ca, .slice B b.length cb, .slice C o.length cc, .int .u8 st] w fun r w' => r = .returned (.bool true) ∧ Below w.heap.size w w' := by
  have hgl := ht.1
  have hs := u8_range' ws
  obtain ⟨w0, hw0⟩ : ∃ w0, w0 = w.alloc (.cells #[.int .u8 st] 5) := ⟨_, rfl⟩
  obtain ⟨bs, hbs⟩ : ∃ bs, bs = w.heap.size := ⟨_, rfl⟩
  have b0 : Below w.heap.size w w0 := by rw [hw0]; exact (Below.refl _ _).alloc (Nat.le_refl _) _
  have KS : Blk w0 bs 5 #[.int .u8 st] := by rw [hw0, hbs]; exact Blk.new w _ _
  have hz0 : w.heap.size ≤ w0.heap.size := b0.size
  have ht0 := ht.keep hgl b0
  have AW := Lib.hid (awake10_any w0 ht0)
  obtain ⟨T, hT⟩ : ∃ T, T = a.take 300 := ⟨_, rfl⟩
  have hT3 : T.length ≤ 300 := by rw [hT, List.length_take]; omega
  have HBT := Lib.hid (show Bytes T by rw [hT]; exact bytes_take ba 300)
  have CA := Lib.hid (fun W (h : Rd W A a) => show Calls Tryd.prog 11 #[.slice A a.length ca, .int .i64 300] W fun e w' => ∃ A' c', e = .returned (.slice A' T.length c') ∧ Own w' W.heap.size A' c' T ∧ Below W.heap.size W w' from by rw [hT]; exact cut_any A ca a 300 W h (by omega) la (by omega) (by omega))
  have HT := Lib.hid ht
  have HRA := Lib.hid (ra.below b0)
  have HRB := Lib.hid (rb.below b0)
  have HRC := Lib.hid (rc.below b0)
  have HB0 := Lib.hid b0
  have HKS := Lib.hid KS
  clear ht ht0 ra rb rc b0 KS hT na nb nc ba
  go_enter Tryd.func4, Tryd.ntmps4
  go_wp2_with fail
  rw [← hw0]
  clear hw0
  subst hbs
  refine AW.out.mono ?_
  rintro r w1 ⟨rfl, b1⟩
  go_wp2_with fail
  refine (CA.out w1 (HRA.out.below b1)).mono ?_
  rintro r w2 ⟨A2, c2, rfl, o2, b2⟩
  have B2 := b1.trans (b2.mono b1.size)
  have O2 := Lib.hid o2
  have HKS2 := Lib.hid (HKS.out.below B2 HKS.out.lt)
  have HRB2 := Lib.hid (HRB.out.below B2)
  have HRC2 := Lib.hid (HRC.out.below B2)
  have HB2 := Lib.hid (HB0.out.trans (B2.mono hz0))
  clear b1 b2 B2 o2 AW CA HRA HRB HRC HB0 HKS
  obtain ⟨KB, hKB⟩ : ∃ KB : Nat, KB = min b.length 20 := ⟨_, rfl⟩
  obtain ⟨DS, hDS⟩ : ∃ DS, DS = b.take KB := ⟨_, rfl⟩
  have hDl : KB = DS.length := by rw [hDS, List.length_take]; omega
  have hKb : KB ≤ b.length := by omega
  have HRD := Lib.hid (show Rd w2 B DS by rw [hDS]; exact HRB2.out.upto hKb)
  have HBD := Lib.hid (show Bytes DS by rw [hDS]; exact bytes_take bb KB)
  have Z1 : (if (b.length : Int) < 20 then (b.length : Int) else 20) = (KB : Int) := by rw [hKB]; split <;> omega
  have Z2 : (if 20 < (b.length : Int) then 20 else (b.length : Int)) = (KB : Int) := by rw [hKB]; split <;> omega
  have Z3 : min (b.length : Int) 20 = (KB : Int) := by omega
  have hK20 : KB ≤ 20 := by omega
  have SU := fun (z : Int) (hz : z = KB) W => slice_upto_is B cb b.length KB .i64 z hz hKb lb W
  have SU1 := SU KB rfl
  clear hDS hKB SU bb
  subst hDl
  obtain ⟨cs, hcs⟩ : ∃ cs : List Int, cs = DS ++ [255, 255] := ⟨_, rfl⟩
  have HCS := Lib.hid hcs
  have hcs22 : cs.length ≤ 22 := by rw [hcs]; simp; omega
  have HBC := Lib.hid (show Bytes cs by rw [hcs]; intro x hx; rcases List.mem_append.1 hx with h | h; exact HBD.out x h; (simp at h; omega))
  clear hcs
  go_wp2_with (first
    | (at_builtin; refine wpList_appX2 rfl (.tmp 26) (.tmp 31) rfl w2.heap.size (l := []) (news := DS) (d := cb) DS rfl rfl rfl (own_lit0 w2 (Nat.le_refl _)) (HRD.out.alloc _) (by simp; omega) (by simp) ?_; intro A3 c3 w3 o3 g3 b3 r3; have O3 := Lib.hid o3; have B3 := Lib.hid (((Below.refl w2.heap.size w2).alloc (Nat.le_refl _) _).trans b3); clear o3 g3 b3 r3)
    | (at_builtin; refine wpList_appX2 rfl (.tmp 32) (.tmp 33) rfl w2.heap.size (l := DS) (news := [255, 255]) (d := 2) cs HCS.out rfl rfl (O3.out.below ((Below.refl _ _).alloc (Nat.le_refl _) _)) (Rd.of_own (Own.new (Blk.new w3 5 _) (Nat.le_refl _) (by decide))) (by simp; omega) (Nat.le_trans B3.out.size (by simp)) ?_; intro A5 c5 w5 o5 g5 b5 r5; have O5 := Lib.hid o5; have B5 := Lib.hid ((B3.out.alloc B3.out.size _).trans b5); clear o5 g5 b5 r5 O3 B3))
  have hEND := Lib.hid (startOf_end (L := T.length) hT3 HCS.out)
  have hz2 : w2.heap.size ≤ w5.heap.size := B5.out.size
  have O2b := Lib.hid (O2.out.below B5.out)
  have hc2 := O2.out.cap
  unfold maxLen at hc2
  clear HRD HBD Z1 Z2 Z3 SU1 hK20 hKb HRB2
  have hem : Hid (∀ (j : Nat) (q : Piece), ([] : List Piece)[j]? = some q → q = ⟨startOf T.length cs j, startOf T.length cs (j + 1) - startOf T.length cs j, cutA A2 c2 (startOf T.length cs j), c2 - startOf T.length cs j, false⟩) := Lib.hid (by intro j q h; simp at h)
  go_loopw [9, 10, 36] (fun lv av iv wr => ∃ (k : Nat) (ps : List Piece) (A9 : Option Addr) (c9 : Nat), k ≤ cs.length ∧ ps.length = k ∧ lv = .slice A9 k c9 ∧ av = .int .i64 (startOf T.length cs k) ∧ iv = .int .i64 k ∧ Hid (OwnV wr w5.heap.size 54 3 A9 c9 k (PV ps)) ∧
      Hid (∀ (j : Nat) (q : Piece), ps[j]? = some q → q = ⟨startOf T.length cs j, startOf T.length cs (j + 1) - startOf T.length cs j, cutA A2 c2 (startOf T.length cs j), c2 - startOf T.length cs j, false⟩) ∧ Hid (Below w5.heap.size w5 wr)) (fun _ _ iv _ => cs.length - (intOf iv).toNat)
  case atStart => exact ⟨0, [], none, 0, by omega, rfl, rfl, rfl, rfl, Lib.hid (OwnV.nil _ _ _ _), hem, Lib.hid (Below.refl _ _)⟩
  case round =>
    obtain ⟨k, ps, A9, c9, hk, hpl, rfl, rfl, rfl, OV, HP, BB⟩ := hrel
    clear hem
    have hS := startOf_le T.length cs k
    by_cases hlt : k < cs.length
    · have hlt' : decide ((k : Int) < (cs.length : Int)) = true := by simpa using hlt
      obtain ⟨b5, o5, xv, rfl, hbl, hx, hcx⟩ := RdI.at_ (show RdI .u8 wr A5 cs from (Rd.of_own O5.out).below BB.out) hlt
      have xb := HBC.out xv (List.mem_of_getElem? hx)
      have hss := startOf_s T.length cs k
      have hgd : cs.getD k 0 = xv := by rw [List.getD, hx]; rfl
      rw [hgd] at hss
      obtain ⟨S, hSd⟩ : ∃ S, S = startOf T.length cs k := ⟨_, rfl⟩
      rw [← hSd] at hss hS ⊢
      obtain ⟨N, hN⟩ : ∃ N, N = min xv.toNat (T.length - S) := ⟨_, rfl⟩
      rw [← hN] at hss
      have hNb : S + N ≤ T.length := by omega
      have hNi : (N : Int) = min xv ((T.length : Int) - S) := by omega
      have z1 : (if xv < (T.length : Int) - (S : Int) then xv else (T.length : Int) - (S : Int)) = (N : Int) := by split <;> omega
      have z2 : (if (T.length : Int) - (S : Int) < xv then (T.length : Int) - (S : Int) else xv) = (N : Int) := by split <;> omega
      have z3 : min xv ((T.length : Int) - (S : Int)) = (N : Int) := hNi.symm
      have v1 : IntKind.i64.wrap xv = xv := IntWalk.i64_in _ (by omega)
      have v2 : IntKind.i64.wrap ((T.length : Int) - (S : Int)) = (T.length : Int) - (S : Int) := IntWalk.i64_in _ (by omega)
      have v3 : IntKind.u64.wrap (S : Int) = (S : Int) := IntWalk.u64_in _ (by omega)
      have v4 : IntKind.i64.wrap ((S : Int) + (N : Int)) = (S : Int) + (N : Int) := IntWalk.i64_in _ (by omega)
      have SB : ∀ W, (Instr.slice 29 (.slice A2 T.length c2) (some (.int .i64 (S : Int))) (some (.int .i64 ((S : Int) + (N : Int)))) none).run Tryd.prog W = .ok (.slice (cutA A2 c2 S) N (c2 - S)) W := fun W => by
        have := slice_both_is A2 c2 T.length S (S + N) .i64 .i64 (S : Int) ((S : Int) + (N : Int)) rfl (by omega) (by omega) hNb hc2.1 W
        rw [Nat.add_sub_cancel_left] at this
        exact this
      have HN := Lib.hid (And.intro hN (And.intro hss hSd))
      have HX := Lib.hid hx
      clear hN hss hSd hNi hgd hx
      go_wp2_with (at_builtin; go_must (refine wpList_appV2 rfl (.tmp 47) (.tmp 57) 52 54 3 40 (.agg #[.int .u64 0, .slice none 0 0, .bool false]) rfl Tryd.underlying52 info_piece rfl (by omega) w5.heap.size (n := k) (m := 1) (xs := PV ps) (news := PieceC ⟨S, N, cutA A2 c2 S, c2 - S, false⟩) (d := 1) rfl rfl (OV.out.below ((Below.refl _ _).alloc (Nat.le_refl _) _)) (reads_new wr 54 (PieceC ⟨S, N, cutA A2 c2 S, c2 - S, false⟩)) (by intro u hu; exact PV_one [⟨S, N, cutA A2 c2 S, c2 - S, false⟩] u (by simpa [PV] using hu)) (by unfold maxLen; omega) (by omega) (Nat.le_trans BB.out.size (by simp)) ?_); intro A6 c6 w6 o6 g6 b6 r6; have O6 := Lib.hid o6; have B6 := Lib.hid ((BB.out.alloc BB.out.size _).trans b6); clear o6 g6 b6 r6)
      go_roundw
      case rel =>
        refine ⟨k + 1, ps ++ [⟨S, N, cutA A2 c2 S, c2 - S, false⟩], A6, c6, by omega, by simp [hpl], rfl, by rw [HN.out.2.1]; go_num, by go_num, Lib.hid ?_, Lib.hid (fun j q hq => ?_), B6⟩
        · rw [PV_snoc]
          exact O6.out
        · by_cases hj : j < ps.length
          · rw [List.getElem?_append_left hj] at hq
            exact HP.out j q hq
          · rw [List.getElem?_append_right (by omega)] at hq
            obtain rfl : j = k := by
              have : j - ps.length < 1 := by
                rcases Nat.lt_or_ge (j - ps.length) 1 with h | h
                · exact h
                · rw [List.getElem?_eq_none (by simpa using h)] at hq; cases hq
              omega
            rw [hpl, Nat.sub_self] at hq
            simp at hq
            subst hq
            rw [← HN.out.2.2, HN.out.2.1, Nat.add_sub_cancel_left]
      case measure => simp [intOf]; omega
    · obtain rfl : k = cs.length := by omega
      rw [hEND.out]
      have v3 : IntKind.u64.wrap (T.length : Int) = (T.length : Int) := IntWalk.u64_in _ (by omega)
      have SF : ∀ W, (Instr.slice 29 (.slice A2 T.length c2) (some (.int .i64 (T.length : Int))) none none).run Tryd.prog W = .ok (.slice (cutA A2 c2 T.length) 0 (c2 - T.length)) W := fun W => by
        have := slice_from_is A2 c2 T.length T.length .i64 (T.length : Int) rfl (Nat.le_refl _) hc2.1 W
        rw [Nat.sub_self] at this
        exact this
      go_wp2_with (at_builtin; go_must (refine wpList_appV2 rfl (.tmp 63) (.tmp 70) 52 54 3 40 (.agg #[.int .u64 0, .slice none 0 0, .bool false]) rfl Tryd.underlying52 info_piece rfl (by omega) w5.heap.size (n := cs.length) (m := 1) (xs := PV ps) (news := PieceC ⟨T.length, 0, cutA A2 c2 T.length, c2 - T.length, true⟩) (d := 1) rfl rfl (OV.out.below ((Below.refl _ _).alloc (Nat.le_refl _) _)) (reads_new wr 54 (PieceC ⟨T.length, 0, cutA A2 c2 T.length, c2 - T.length, true⟩)) (by intro u hu; exact PV_one [⟨T.length, 0, cutA A2 c2 T.length, c2 - T.length, true⟩] u (by simpa [PV] using hu)) (by unfold maxLen; omega) (by omega) (Nat.le_trans BB.out.size (by simp)) ?_); intro A6 c6 P o6 g6 b6 r6; have O6 := Lib.hid o6; have B6 := Lib.hid ((BB.out.alloc BB.out.size _).trans b6); clear o6 g6 b6 r6)
      have KG0 := Blk.new P 29 #[.slice none 0 0]
      have hzP : (P.alloc (.cells #[.slice none 0 0] 29)).heap.size = P.heap.size + 1 := by simp
      refine (QNew_any _).mono ?_
      rintro r V ⟨g, rfl, qV, bV⟩
      have hz5P : w5.heap.size ≤ P.heap.size := B6.out.size
      have BP : Below w.heap.size w P := (HB2.out.trans (B5.out.mono HB2.out.size)).trans (B6.out.mono (Nat.le_trans HB2.out.size hz2))
      have HBP := Lib.hid BP
      have B2P : Below w2.heap.size w2 P := B5.out.trans (B6.out.mono hz2)
      have HKSP := Lib.hid (HKS2.out.below B2P HKS2.out.lt)
      have HRCP := Lib.hid (HRC2.out.below B2P)
      have HTP := Lib.hid (HT.out.keep hgl BP)
      have hglP : 0 < P.heap.size := Nat.lt_of_lt_of_le hgl BP.size
      have O2P := O2.out.below B2P
      obtain ⟨qs, hqs⟩ : ∃ qs, qs = ps ++ [(⟨T.length, 0, cutA A2 c2 T.length, c2 - T.length, true⟩ : Piece)] := ⟨_, rfl⟩
      have hql : qs.length = cs.length + 1 := by rw [hqs]; simp [hpl]
      have HOV := Lib.hid (show OwnV P w5.heap.size 54 3 A6 c6 (cs.length + 1) (PV qs) by rw [hqs, PV_snoc]; exact O6.out)
      have HQ := Lib.hid (show ∀ (j : Nat) (q : Piece), qs[j]? = some q → PieceOk P T q ∧ q.off = startOf T.length cs j ∧ q.off + q.n = startOf T.length cs (j + 1) ∧ (j = cs.length → q.e = true) from fun j q hq => by
        rw [hqs] at hq
        by_cases hj : j < ps.length
        · rw [List.getElem?_append_left hj] at hq
          have := HP.out j q hq
          subst this
          have hm := startOf_mono T.length cs j
          have hl := startOf_le T.length cs (j + 1)
          exact ⟨piece_ok O2P (by omega) (by intro h; cases h), rfl, Nat.add_sub_cancel' hm, fun h => by omega⟩
        · rw [List.getElem?_append_right (by omega)] at hq
          obtain rfl : j = cs.length := by
            have : j - ps.length < 1 := by
              rcases Nat.lt_or_ge (j - ps.length) 1 with h | h
              · exact h
              · rw [List.getElem?_eq_none (by simpa using h)] at hq; cases hq
            omega
          rw [hpl, Nat.sub_self] at hq
          simp at hq
          subst hq
          exact ⟨piece_ok O2P (by omega) (fun _ => by omega), hEND.out.symm, (startOf_past hEND.out).symm, fun _ => rfl⟩)
      have SV := Lib.hid (show Wh P (V.alloc (.cells #[.pointer (some ⟨g, 0, none⟩)] 24)) g V.heap.size P.heap.size 0 T qs0 none 0 [] from
        ⟨(qV.base_le (by omega)).alloc _, Blk.new V _ _, (KG0.below bV (by omega)).alloc _, Own.nil _ _, by simp [qs0], Fits.start T, (((Below.refl _ _).alloc (Nat.le_refl _) _).trans (bV.mono (by omega))).alloc (by have := bV.size; omega) _, by have := bV.size; omega, Nat.le_refl _⟩)
      obtain ⟨r, hAr⟩ : ∃ r, A6 = some ⟨r, 0, none⟩ := by
        rcases HOV.out.row_is with ⟨_, h0, _⟩ | ⟨r, cur, h0, _⟩
        · omega
        · exact ⟨r, h0⟩
      subst hAr
      have HO2P := Lib.hid (Rd.of_own O2P)
      clear qV bV KG0 BP B2P O2P hqs HP OV BB O6 SF v3 HB2 HKS2 HRC2 O2 O2b O5 B5 B6 HT
      go_wp2_with fail
      go_loopw [76] (fun iv wr => ∃ (k m : Nat) (s : QS) (G : Option Addr) (cg : Nat) (gt : List Int), k ≤ o.length ∧ iv = .int .i64 k ∧ m ≤ 300 * min k 30 ∧ Hid (Wh P wr g V.heap.size P.heap.size m T s G cg gt)) (fun iv _ => o.length - (intOf iv).toNat)
      case atStart => exact ⟨0, 0, qs0, none, 0, [], by omega, rfl, by omega, SV⟩
      case round =>
        obtain ⟨k, m, s, G, cg, gt, hk, rfl, hm, S⟩ := hrel
        clear SV
        by_cases hlt : k < o.length
        · obtain ⟨bo, oo, xo, rfl, hbl, hx, hcx⟩ := RdI.at_ (show RdI .u8 wr C o from HRCP.out.below S.out.b) hlt
          have xb := bc xo (List.mem_of_getElem? hx)
          by_cases h30 : k < 30
          · have hd : decide ((k : Int) < 30) = true := by simp; omega
            obtain ⟨J, hJ⟩ : ∃ J, J = (xo % ((cs.length : Int) + 1)).toNat := ⟨_, rfl⟩
            have hJl : J < qs.length := by
              have := Int.emod_lt_of_pos xo (show (0 : Int) < (cs.length : Int) + 1 by omega)
              have := Int.emod_nonneg xo (show (cs.length : Int) + 1 ≠ 0 by omega)
              omega
            obtain ⟨pq, hpq⟩ : ∃ pq, qs[J]? = some pq := ⟨_, List.getElem?_eq_getElem hJl⟩
            have hok := (HQ.out J pq hpq).1
            have hj0 := Int.emod_nonneg xo (show (cs.length : Int) + 1 ≠ 0 by omega)
            have hj1 := Int.emod_lt_of_pos xo (show (0 : Int) < (cs.length : Int) + 1 by omega)
            have hj2 : (xo % ((cs.length : Int) + 1)).toNat < cs.length + 1 := by omega
            obtain ⟨y0, y1, y2⟩ := piece_in HOV.out S.out.b hpq
            have CP := Lib.hid (put_piece P wr g V.heap.size P.heap.size w.heap.size m T s G cg gt pq st S.out HTP.out hglP HBT.out hT3 hok HKSP.out hs (by omega))
            rw [hJ] at y0 y1 y2
            clear hpq hok hJl hJ
            go_wp2_with fail
            refine CP.out.mono ?_
            rintro e9 w9 ⟨rfl, s9, G9, cg9, gt9, st9, _⟩
            have S9 := Lib.hid st9
            clear st9 CP S y0 y1 y2
            go_wp2_with fail
            go_roundw
            case rel => exact ⟨k + 1, m + 300, s9, G9, cg9, gt9, by omega, by go_num, by omega, S9⟩
            case measure => simp [intOf]; omega
          · have hd : decide ((k : Int) < 30) = false := by simp; omega
            go_wp2_with fail
            go_roundw
            case rel => exact ⟨k + 1, m, s, G, cg, gt, by omega, by go_num, by omega, S⟩
            case measure => simp [intOf]; omega
        · obtain rfl : k = o.length := by omega
          go_wp2_with fail
          go_loopw [19] (fun iv wr => ∃ (k m : Nat) (s : QS) (G : Option Addr) (cg : Nat) (gt : List Int), k ≤ cs.length + 1 ∧ iv = .int .i64 ((k : Int) - 1) ∧ m + 300 * k ≤ 20000 ∧ Hid (Wh P wr g V.heap.size P.heap.size m T s G cg gt) ∧ Hid (∀ x : Nat, startOf T.length cs k ≤ x → x < T.length → s.f (x : Int) ≠ none) ∧ Hid (k ≤ cs.length → s.en = true)) (fun iv _ => (intOf iv + 1).toNat)
          case atStart => exact ⟨cs.length + 1, m, s, G, cg, gt, Nat.le_refl _, by congr 1; omega, by omega, S, Lib.hid (fun x h1 h2 => by rw [startOf_past hEND.out] at h1; omega), Lib.hid (fun h => by omega)⟩
          case round =>
            obtain ⟨k, m, s, G, cg, gt, hk, rfl, hm, S, CV, EN⟩ := hrel
            rcases k with _ | j
            · have FU := S.out.fit.full S.out.q.ok (fun x hx => CV.out x (Nat.zero_le _) hx) (EN.out (Nat.zero_le _))
              obtain ⟨f1, f2, f3⟩ := FU
              have r0 := S.out.q.ok.r0
              have r1 := S.out.q.ok.r1
              obtain ⟨N, hN⟩ : ∃ N : Nat, (N : Int) = T.length - s.rd := ⟨((T.length : Int) - s.rd).toNat, by omega⟩
              have hN2 : N = takeN s 1000 := by unfold takeN; rw [f1]; omega
              have T3 := Take_any P.heap.size g m s 1000 N wr S.out.q (by decide) S.out.b.size (by omega) hN2
              rw [show (s.en && decide (s.rd + (N : Int) = s.hi)) = true by rw [EN.out (Nat.zero_le _), f2]; simp; omega] at T3
              have nx := S.out.fit.next S.out.q.ok (N := N) (by omega) (r := s.rd.toNat) (by omega)
              rw [show s.rd.toNat + N = T.length by omega, List.take_length, ← S.out.hgt] at nx
              obtain ⟨NW, hNW⟩ : ∃ NW, NW = tk s.f s.rd N := ⟨_, rfl⟩
              have hNl : N = NW.length := by rw [hNW, tk_len]
              rw [← hNW] at T3 nx
              have HNX := Lib.hid nx.symm
              have hgl9 : gt.length ≤ 300 := by rw [S.out.hgt, List.length_take]; omega
              have hh0 : ((qTake s N).T.length : Int) - (qTake s N).rd = 0 := by
                show (s.T.length : Int) - (s.rd + (N : Int)) = 0
                omega
              have hd0 : ((qTake s N).en && decide ((qTake s N).rd = (qTake s N).hi)) = true := by
                show (s.en && decide (s.rd + (N : Int) = s.hi)) = true
                rw [EN.out (Nat.zero_le _), f2]
                simp
                omega
              have hN300 : N ≤ 300 := by omega
              have HT3 := Lib.hid T3
              have HH0 := Lib.hid hh0
              have HD0 := Lib.hid hd0
              have cq := S.out.kq.cell 0
              simp only [List.getElem?_toArray, List.getElem?_cons_zero] at cq
              clear T3 nx hh0 hd0 hN hN2 hNW f1 f2 f3 r0 r1 CV EN
              subst hNl
              rw [show ((0 : Nat) : Int) - 1 = -1 by rfl]
              go_wp2_with fail
              refine HT3.out.mono ?_
              rintro r9 w9 ⟨⟨A7, c7, rfl, o7⟩, q7, k7, b7⟩
              obtain ⟨M7, hM7, _⟩ := S.out.q.q
              have KQ9 := Lib.hid (k7.blk (Blk.ne_ S.out.kq hM7 (by decide)) (by decide) S.out.kq)
              have KG9 := Lib.hid (k7.blk (Blk.ne_ S.out.kG hM7 (by decide)) (by decide) S.out.kG)
              have got9 := Lib.hid (own_keepT S.out.got S.out.q k7)
              have B9 := Lib.hid (S.out.b.trans b7)
              have Q9 := Lib.hid q7
              have R9 := Lib.hid (Rd.of_own o7)
              have cq9 := KQ9.out.cell 0
              have cG9 := KG9.out.cell 0
              simp only [List.getElem?_toArray, List.getElem?_cons_zero] at cq9 cG9
              clear hM7 k7 b7 q7 o7 cq HT3
              go_wp2_with (at_builtin; go_must (refine wpList_appX3 rfl (.tmp 118) (.tmp 119) rfl P.heap.size (l := gt) (news := NW) (d := c7) T HNX.out rfl rfl got9.out R9.out (by omega) B9.out.size ?_); intro A8 c8 w8 o8 g8 b8; have O8 := Lib.hid o8; have KQ8 := Lib.hid (KQ9.out.grown g8 (own_not got9.out KQ9.out (by decide))); have cq8 := KQ8.out.cell 0; simp only [List.getElem?_toArray, List.getElem?_cons_zero] at cq8; have Q8 := Lib.hid (Q9.out.grown g8 (fun r e => by obtain ⟨_, cs', hb'⟩ := own_row got9.out e; exact ⟨_, cs', hb', by decide, by decide⟩)); have B8 := Lib.hid (B9.out.trans b8); clear o8 g8 b8)
              have EL := Held_any P.heap.size g m (qTake s NW.length) w8 Q8.out
              rw [HH0.out] at EL
              have HEL := Lib.hid EL
              have ED := Done_any P.heap.size g m (qTake s NW.length) w8 Q8.out
              rw [HD0.out] at ED
              have HED := Lib.hid ED
              have SY := Lib.hid (same_yes A8 A2 c8 c2 T T w8 (Rd.of_own O8.out) (HO2P.out.below B8.out) HBT.out rfl)
              clear EL ED
              refine SY.out.mono ?_
              rintro r9 w10 ⟨rfl, rfl⟩
              go_wp2_with fail
              refine HEL.out.mono ?_
              rintro r9 w10 ⟨rfl, rfl⟩
              go_wp2_with fail
              refine HED.out.mono ?_
              rintro r9 w10 ⟨rfl, kk, rfl⟩
              go_wp2_with fail
              go_ret
              exact ⟨rfl, below_drewN (HBP.out.trans (B8.out.mono HBP.out.size)) kk⟩
            · have e1 : ((j + 1 : Nat) : Int) - 1 = (j : Int) := by omega
              rw [e1]
              obtain ⟨pq, hpq⟩ : ∃ pq, qs[j]? = some pq := ⟨_, List.getElem?_eq_getElem (by omega)⟩
              have hok := HQ.out j pq hpq
              obtain ⟨y0, y1, y2⟩ := piece_in HOV.out S.out.b hpq
              have CP := Lib.hid (put_piece P wr g V.heap.size P.heap.size w.heap.size m T s G cg gt pq st S.out HTP.out hglP HBT.out hT3 hok.1 HKSP.out hs (by omega))
              have HOK := Lib.hid hok.2
              have vj : IntKind.i64.wrap ((j : Int) - 1) = (j : Int) - 1 := IntWalk.i64_in _ (by omega)
              clear hpq hok e1
              go_wp2_with fail
              refine CP.out.mono ?_
              rintro e9 w9 ⟨rfl, s9, G9, cg9, gt9, st9, cv9, old9, en9⟩
              have S9 := Lib.hid st9
              have CV9 := Lib.hid (show ∀ x : Nat, startOf T.length cs j ≤ x → x < T.length → s9.f (x : Int) ≠ none from fun x h1 h2 => by
                by_cases h3 : startOf T.length cs (j + 1) ≤ x
                · exact old9 x (CV.out x h3 h2)
                · exact cv9 x (by rw [HOK.out.1]; exact h1) (by rw [HOK.out.2.1]; omega))
              have EN9 := Lib.hid (show j ≤ cs.length → s9.en = true from fun h => by
                rw [en9]
                by_cases h3 : j = cs.length
                · rw [HOK.out.2.2 h3]
                  simp
                · rw [EN.out (by omega)]
                  rfl)
              clear st9 cv9 old9 en9 CP S CV EN y0 y1 y2 HOK
              go_wp2_with fail
              go_roundw
              case rel => exact ⟨j, m + 300, s9, G9, cg9, gt9, by omega, rfl, by omega, S9, CV9, EN9⟩
              case measure => simp [intOf]
end Go.Proofs.YtdafeokjedmnkaaDoor
