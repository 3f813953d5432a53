/-
  The reference's take: numbers one behind the other.
-/
import Derived.Test.YtpaglcojbcndoaaDoorItemD
import Derived.Test.YtpaglcojbcndoaaDoorVintI
namespace Go.Proofs.YtpaglcojbcndoaaDoor
open Go.RowKit
set_option linter.unusedVariables false
set_option linter.unusedSimpArgs false
/-- Bytes that are left: in a block below gx, or in one of bytes. -/
structure BAt (w : World) (gx : Nat) (A : Option Addr) (c : Nat) (q : List Int) : Prop where
  sl : Sl w A c q
  ty : ∀ ad, A = some ad → ad.block < gx ∨ ∃ cs, Blk w ad.block 5 cs
theorem BAt.of_own {w : World} {gx B0 : Nat} {A : Option Addr} {c : Nat} {q : List Int} (h : Own w B0 A c q) : BAt w gx A c q := by
  refine ⟨Sl.of_own h, fun ad e => ?_⟩
  rcases OwnV.row_is (show OwnV w B0 5 1 A c q.length (U8 q) from h) with ⟨hA, _⟩ | ⟨g, cur, hA, _, hb, _⟩
  · rw [hA] at e; cases e
  · rw [hA] at e
    injection e with e
    subst e
    exact .inr ⟨cur, hb⟩
theorem BAt.below {w w' : World} {gx : Nat} {A : Option Addr} {c : Nat} {q : List Int} (h : BAt w gx A c q) (hb : Below w.heap.size w w') : BAt w' gx A c q :=
  ⟨h.sl.below hb, fun ad e => (h.ty ad e).elim (fun x => .inl x) (fun ⟨cs, k⟩ => .inr ⟨cs, k.below hb k.lt⟩)⟩
theorem BAt.grown {w w' : World} {gx : Nat} {row : Option Nat} {A : Option Addr} {c : Nat} {q : List Int} (h : BAt w gx A c q) (hg : w.grownBy w' row) (h1 : ∀ g, row = some g → gx ≤ g) (hne : ∀ k cur, Blk w k 5 cur → row ≠ some k) : BAt w' gx A c q := by
  have hb : ∀ ad, A = some ad → row ≠ some ad.block := fun ad e => by
    rcases h.ty ad e with x | ⟨cs, k⟩
    · intro er; have := h1 _ er; omega
    · exact hne _ _ k
  refine ⟨⟨⟨h.sl.rd.1, fun hn => ?_⟩, h.sl.le, h.sl.max, h.sl.nil⟩, fun ad e => (h.ty ad e).elim (fun x => .inl x) (fun ⟨cs, k⟩ => .inr ⟨cs, k.grown hg (fun x => hb ad e x.symm)⟩)⟩
  obtain ⟨ad, e, hlt, hc⟩ := h.sl.rd.2 hn
  refine ⟨ad, e, Nat.lt_of_lt_of_le hlt hg.size, fun j u hu => ?_⟩
  refine (World.cell?_of_block (a := ad.add j) (hg.block (ad.add j).block (by rw [block_of_add]; exact hlt) (by rw [block_of_add]; exact fun x => hb ad e x.symm))).trans (hc j u hu)
def pnums : Nat → List Int → Option (List Int × List Int)
  | 0, p => some ([], p)
  | k + 1, p => match pnum p with
    | none => none
    | some (a, q) => match pnums k q with
      | none => none
      | some (l, r) => some (a :: l, r)
theorem pnum_by {q q1 : List Int} {n : Int} (hb : Bytes q) {L : Nat} (hl : q.length ≤ L) (h : pnum q = some (n, q1)) : Bytes q1 ∧ q1.length ≤ L := by
  obtain ⟨_, _, rfl⟩ := pnum_some h
  exact ⟨hb.drop _, by rw [List.length_drop]; omega⟩
theorem pnums_by : ∀ {k : Nat} {q l q1 : List Int}, Bytes q → pnums k q = some (l, q1) → Bytes q1 ∧ l.length = k ∧ q1.length ≤ q.length
  | 0, q, l, q1, hb, h => by
    injection h with h
    injection h with h1 h
    rw [← h1, ← h]
    exact ⟨hb, rfl, Nat.le_refl _⟩
  | k + 1, q, l, q1, hb, h => by
    unfold pnums at h
    split at h
    · cases h
    · rename_i a r hp
      have hr := pnum_by hb (Nat.le_refl _) hp
      split at h
      · cases h
      · rename_i l2 r2 hp2
        injection h with h
        injection h with h1 h
        have := pnums_by hr.1 hp2
        rw [← h1, ← h]
        exact ⟨this.1, by simp [this.2.1], Nat.le_trans this.2.2 hr.2⟩
theorem pnums_stepL {k : Nat} {rest r1 xs : List Int} {a : Int} (h : pnum rest = some (a, r1)) : (match pnums (k + 1) rest with | none => none | some (l, r) => some (xs ++ l, r)) = (match pnums k r1 with | none => none | some (l, r) => some ((xs ++ [a]) ++ l, r) : Option (List Int × List Int)) := by
  have e : pnums (k + 1) rest = match pnums k r1 with | none => none | some (l, r) => some (a :: l, r) := by
    show (match pnum rest with | none => none | some (a, q) => match pnums k q with | none => none | some (l, r) => some (a :: l, r)) = _
    rw [h]
  rw [e]
  cases hk : pnums k r1 with
  | none => simp
  | some r => simp
theorem pnums_no {k : Nat} {rest : List Int} (h : pnum rest = none) : pnums (k + 1) rest = none := by
  show (match pnum rest with | none => none | some (a, q) => match pnums k q with | none => none | some (l, r) => some (a :: l, r)) = _
  rw [h]
abbrev OwnU (w : World) (base : Nat) (A : Option Addr) (c : Nat) (l : List Int) : Prop := OwnV w base 22 1 A c l.length (IV .u64 l)
theorem info_u64I : (Tryd.prog.info? 22).map (fun i => (i.zero, i.size, i.bytes)) = some (some (.int .u64 0), 1, 8) := by kernel_rfl
theorem wpList_appUI {ops : Array Oper} {rest : List Oper} {o : Oper} {a : Act} {w : World} {Q : Exit → Act → World → Prop} (hgd : o.guard = none) (s x : Operand)
    (ho : o.op = .call { callee := .builtin .append, args := #[s, x], argTypes := #[74, 74] })
    (base : Nat) {c d : Nat} {A B : Option Addr} {l news : List Int} (X : List Int) (hX : X = l ++ news) (hs : a.eval s = .slice A l.length c) (hx : a.eval x = .slice B news.length d) (hown : OwnU w base A c l) (hr : RdI .u64 w B news)
    (hlen : l.length + news.length ≤ 8000000) (hbase : base ≤ w.heap.size)
    (h : ∀ A' c' w', OwnU w' base A' c' X → w.grownBy w' (Value.slice A l.length c).ownBlock → Below base w w' → wpList Tryd.prog ops Q rest (a.put o.dst (.slice A' X.length c')) w') : wpList Tryd.prog ops Q (o :: rest) a w := by
  subst hX
  refine wpList_appV2 hgd s x 74 22 1 8 (.int .u64 0) ho Tryd.underlying74 info_u64I rfl (by omega) base hs hx hown hr (by intro u hu; simp only [IV, List.mem_map] at hu; obtain ⟨x, _, rfl⟩ := hu; rfl) (by unfold maxLen; omega) (by omega) hbase ?_
  intro A' c' w' h1 h2 h3 _
  have := h A' c' w' (by unfold OwnU; rw [IV_append, List.length_append]; exact h1) h2 h3
  rwa [List.length_append] at this
/-- Where take's loop stands. -/
structure TkI (w wr : World) (p : List Int) (n j : Nat) (rest xs : List Int) (A : Option Addr) (c : Nat) (vA : Option Addr) (vc : Nat) : Prop where
  pn : pnums n p = match pnums (n - j) rest with | none => none | some (l, r) => some (xs ++ l, r)
  xl : xs.length = j
  vs : OwnU wr w.heap.size vA vc xs
  b : BAt wr w.heap.size A c rest
  ow : 0 < j → Own wr w.heap.size A c rest
  by_ : Bytes rest ∧ rest.length ≤ 70368744177664
  bel : Below w.heap.size w wr
/-- What take answers. -/
structure TakesTo (w w' : World) (p : List Int) (n : Nat) (r : Ending) : Prop where
  ok : ∀ l q, pnums n p = some (l, q) → ∃ vA vc A c, r = .returned (.tuple #[.slice vA l.length vc, .slice A q.length c, .int .i64 0]) ∧ OwnU w' w.heap.size vA vc l ∧ Sl w' A c q ∧ (0 < n → Own w' w.heap.size A c q)
  no : pnums n p = none → r = .returned (.tuple #[.slice none 0 0, .slice none 0 0, .int .i64 2])
  bel : Below w.heap.size w w'
theorem lit1UI (w : World) (a : Int) : RdI .u64 (w.alloc (.cells #[.int .u64 a] 22)) (some ⟨w.heap.size, 0, none⟩) [a] := rdlitI w [a] (Nat.le_of_ble_eq_true rfl)
set_option maxHeartbeats 1600000 in
theorem refTakes_any (A : Option Addr) (c : Nat) (p : List Int) (n : Nat) (w : World) (h : Sl w A c p) (hb : Bytes p) (hl : p.length ≤ 70368744177664) (hlt : ∀ ad, A = some ad → ad.block < w.heap.size) (hn : n ≤ 10) :
    Calls Tryd.prog 33 #[.slice A p.length c, .int .i64 n] w fun r w' => TakesTo w w' p n r := by
  have T0 := Lib.hid (show TkI w w p n 0 p [] A c none 0 from ⟨by rw [Nat.sub_zero]; cases pnums n p with
    | none => rfl
    | some r => rfl, rfl, OwnV.nil _ _ _ _, ⟨h, fun ad e => .inl (hlt ad e)⟩, fun h => absurd h (by omega), ⟨hb, hl⟩, Below.refl _ _⟩)
  obtain ⟨P9, hP9⟩ : ∃ P9 : World → Ending → Prop, P9 = fun w' r => TakesTo w w' p n r := ⟨_, rfl⟩
  have HP := Lib.hid hP9
  rw [show (fun r w' => TakesTo w w' p n r) = fun r w' => P9 w' r by rw [hP9]]
  clear h hb hl hlt hP9
  go_enter Tryd.func33, Tryd.ntmps33
  go_wp2_with fail
  go_loopw [0, 7, 12] (fun pv ov iv wr => ∃ (j : Nat) (rest xs : List Int) (A1 : Option Addr) (c1 : Nat) (vA1 : Option Addr) (vc1 : Nat), pv = .slice A1 rest.length c1 ∧ ov = .slice vA1 xs.length vc1 ∧ iv = .int .i64 j ∧ j ≤ n ∧ Hid (TkI w wr p n j rest xs A1 c1 vA1 vc1)) (fun _ _ iv _ => n - (intOf iv).toNat)
  case atStart => exact ⟨0, p, [], A, c, none, 0, rfl, rfl, rfl, Nat.zero_le _, T0⟩
  case round =>
    obtain ⟨j, rest, xs, A4, c4, vA1, vc1, rfl, rfl, rfl, hj, HI⟩ := hrel
    rename World => wj
    by_cases hlt2 : j < n
    · have hpn := HI.out.pn
      rw [show n - j = (n - (j + 1)) + 1 by omega] at hpn
      have hd2 : decide ((j : Int) < (n : Int)) = true := by simp; omega
      have HXL := Lib.hid HI.out.xl
      have HLT := Lib.hid hlt2
      cases hp : pnum rest with
      | none =>
        have HE := Lib.hid (show pnums n p = none by rw [hpn, pnums_no hp])
        have CT := Lib.hid (refTake_no A4 c4 rest wj HI.out.b.sl.rd HI.out.by_.1 HI.out.b.sl.le HI.out.by_.2 (pnum_none hp))
        clear hp hpn
        go_wp2_with fail
        refine CT.out.mono ?_
        rintro e w5 ⟨rfl, b5⟩
        have B5 := Lib.hid (HI.out.bel.trans (b5.mono HI.out.bel.size))
        clear b5 CT
        go_wp2_with fail
        go_ret3
        show P9 _ _
        rw [HP.out]
        exact ⟨fun l q he => (by rw [HE.out] at he; cases he), fun _ => rfl, B5.out⟩
      | some r =>
        obtain ⟨a, r1⟩ := r
        have HPN := Lib.hid (show pnums n p = match pnums (n - (j + 1)) r1 with | none => none | some (l, r) => some ((xs ++ [a]) ++ l, r) by
          rw [hpn]
          exact pnums_stepL hp)
        have hqb := pnum_by HI.out.by_.1 HI.out.by_.2 hp
        obtain ⟨h0, hn1, hq⟩ := pnum_some hp
        have CT := refTake_yes A4 c4 rest wj HI.out.b.sl.rd HI.out.by_.1 HI.out.b.sl.le HI.out.by_.2 h0
        rw [hn1, hq] at CT
        have CT2 := Lib.hid CT
        have HQ5 := Lib.hid hqb
        clear CT h0 hn1 hq hp hqb hpn
        go_wp2_with fail
        refine CT2.out.mono ?_
        rintro e w5 ⟨A5, c5, rfl, o5, b5⟩
        have B5 := Lib.hid (HI.out.bel.trans (b5.mono HI.out.bel.size))
        have V5 := Lib.hid (OwnV.below HI.out.vs b5)
        have O5 := Lib.hid o5
        have ba := (Below.refl w5.heap.size w5).alloc (Nat.le_refl _) (.cells #[.int .u64 a] 22)
        have B6 := Lib.hid (B5.out.trans (ba.mono B5.out.size))
        have V6 := Lib.hid (OwnV.below V5.out ba)
        have Q6 := Lib.hid ((show BAt w5 w.heap.size A5 c5 r1 from BAt.of_own O5.out).below ba)
        have R6 := Lib.hid (lit1UI w5 a)
        have W6 := Lib.hid (Own.base_leI (O5.out.below ba) HI.out.bel.size)
        obtain ⟨XS, hXS⟩ : ∃ XS, XS = xs ++ [a] := ⟨_, rfl⟩
        have HXS := Lib.hid hXS
        clear b5 o5 CT2 ba hXS HI
        go_wp2_with (at_builtin
                     go_must (refine wpList_appUI rfl (.tmp 23) (.tmp 25) rfl w.heap.size (l := xs) (news := [a]) XS HXS.out rfl rfl V6.out R6.out (by have := HXL.out; have := HLT.out; simp; omega) B6.out.size ?_)
                     intro A8 c8 w8 o8 g8 b8
                     have V8 := Lib.hid o8
                     have Q8 := Lib.hid (Q6.out.grown g8 (fun g e => OwnV.row_ge V6.out g e) (fun k cur hb => OwnV.other V6.out (by decide) k cur hb |> fun h e => h e))
                     have B8 := Lib.hid (B6.out.trans b8)
                     have W8 := Lib.hid (W6.out.grown g8 (fun k cur hb => OwnV.other V6.out (by decide) k cur hb |> fun h e => h e))
                     clear o8 g8 b8)
        go_roundw
        case rel => exact ⟨j + 1, r1, XS, A5, c5, A8, c8, rfl, rfl, by go_num, HLT.out, Lib.hid ⟨by rw [HXS.out]; exact HPN.out, by rw [HXS.out, List.length_append, HXL.out]; rfl, V8.out, Q8.out, fun _ => W8.out, HQ5.out, B8.out⟩⟩
        case measure => simp [intOf]; have := HLT.out; omega
    · have hd2 : decide ((j : Int) < (n : Int)) = false := by simp; omega
      have hpn := HI.out.pn
      rw [show n - j = 0 by omega] at hpn
      have HPN := Lib.hid (show pnums n p = some (xs, rest) by rw [hpn]; simp [pnums])
      have V := Lib.hid HI.out.vs
      have B := Lib.hid HI.out.b
      have OW := Lib.hid (show 0 < n → Own wj w.heap.size A4 c4 rest from fun h => HI.out.ow (by omega))
      have BB := Lib.hid HI.out.bel
      clear hpn HI
      go_wp2_with fail
      go_ret3
      show P9 _ _
      rw [HP.out]
      exact ⟨fun l q he => (by
        rw [HPN.out] at he
        injection he with he
        injection he with h1 h2
        subst h1 h2
        exact ⟨vA1, vc1, A4, c4, rfl, V.out, B.out.sl, OW.out⟩), fun he => (by rw [HPN.out] at he; cases he), BB.out⟩
end Go.Proofs.YtpaglcojbcndoaaDoor
