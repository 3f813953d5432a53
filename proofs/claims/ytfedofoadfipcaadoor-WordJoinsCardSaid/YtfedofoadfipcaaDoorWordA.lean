/-
  What the parser of word's messages takes, by value; takeBit, takePlace, takeList.
-/
import Derived.Test.YtfedofoadfipcaaDoorPrsC
import Derived.Test.YtfedofoadfipcaaDoorStepV
import Derived.Laws.Rows
namespace Go.Proofs.YtfedofoadfipcaaDoor
open Go.RowKit
set_option linter.unusedVariables false
set_option linter.unusedSimpArgs false
def pnum (p : List Int) : Option (Int × List Int) := if rdS p = 0 then none else some (rdN p, p.drop (rdS p))
def pbit : List Int → Option (Bool × List Int)
  | [] => none
  | x :: r => if x ≤ 1 then some (x == 1, r) else none
def pplace (p : List Int) : Option ((Int × Int) × List Int) :=
  match pnum p with
  | none => none
  | some (a, q) => match pnum q with
    | none => none
    | some (b, r) => some ((a, b), r)
def ptext (m : Nat) (p : List Int) : Option (List Int × List Int) :=
  match pnum p with
  | none => none
  | some (n, q) => if n ≤ m ∧ n ≤ q.length then some (q.take n.toNat, q.drop n.toNat) else none
def pnums : Nat → List Int → Option (List Int × List Int)
  | 0, p => some ([], p)
  | k + 1, p => match pnum p with
    | none => none
    | some (a, q) => match pnums k q with
      | none => none
      | some (l, r) => some (a :: l, r)
def plist (p : List Int) : Option (List Int × List Int) :=
  match pnum p with
  | none => none
  | some (c, q) => if c ≤ 8 then pnums c.toNat q else none
section
variable {gp g B : Nat} {p q : List Int} {L : Int} {w : World}
theorem pnum_some {n : Int} (h : pnum p = some (n, q)) : rdS p ≠ 0 ∧ rdN p = n ∧ p.drop (rdS p) = q := by
  unfold pnum at h
  split at h
  · cases h
  · rename_i h0
    injection h with h
    injection h with h1 h2
    exact ⟨h0, h1, h2⟩
theorem pnum_none (h : pnum p = none) : rdS p = 0 := by
  unfold pnum at h
  split at h
  · assumption
  · cases h
theorem pnum_bd (hb : Bytes p) {n : Int} (h : pnum p = some (n, q)) : 0 ≤ n ∧ Bytes q := by
  obtain ⟨_, rfl, rfl⟩ := pnum_some h
  exact ⟨rdN_nonneg p hb, hb.drop _⟩
theorem WNum_ok {n : Int} (h : Prs w gp g B p L) (hn : pnum p = some (n, q)) :
    Calls Tryd.prog 33 #[.pointer (some ⟨gp, 0, none⟩)] w fun r w' => r = .returned (.int .u64 n) ∧ Prs w' gp g B q L ∧ w.grownBy w' (some g) := by
  obtain ⟨h0, rfl, rfl⟩ := pnum_some hn
  exact PNumber_ok h h0
theorem WNum_no (h : Prs w gp g B p L) (hn : pnum p = none) :
    Calls Tryd.prog 33 #[.pointer (some ⟨gp, 0, none⟩)] w fun r w' => r = dies L ∧ w.grownBy w' (some g) := PNumber_no h (pnum_none hn)
theorem WText_ok {m : Nat} {t : List Int} (h : Prs w gp g B p L) (hn : ptext m p = some (t, q)) :
    Calls Tryd.prog 67 #[.pointer (some ⟨gp, 0, none⟩), .int .u64 m] w fun e w' => ∃ A' c' B', e = .returned (.slice A' t.length c') ∧ w.heap.size ≤ B' ∧ Own w' B' A' c' t ∧ Prs w' gp g B q L ∧ w.grownBy w' (some g) := by
  unfold ptext at hn
  split at hn
  · cases hn
  · rename_i n q' hp
    split at hn
    · rename_i hc
      injection hn with hn
      injection hn with h1 h2
      obtain ⟨h0, e1, e2⟩ := pnum_some hp
      have hnn := rdN_nonneg p h.rd.bytes
      have hh := PText_ok m h h0 (by rw [e1]; exact hc.1) (by rw [e1, e2]; exact hc.2)
      rw [e1, e2, h1, h2] at hh
      have hl : n.toNat = t.length := by rw [← h1, List.length_take]; omega
      rw [hl] at hh
      exact hh
    · cases hn
theorem WText_no {m : Nat} (hm : m < 18446744073709551616) (h : Prs w gp g B p 4) (hn : ptext m p = none) :
    Calls Tryd.prog 67 #[.pointer (some ⟨gp, 0, none⟩), .int .u64 m] w fun e w' => e = dies 4 ∧ w.grownBy w' (some g) := by
  unfold ptext at hn
  split at hn
  · rename_i hp
    exact PText_no1 m h (pnum_none hp)
  · rename_i n q' hp
    obtain ⟨h0, e1, e2⟩ := pnum_some hp
    split at hn
    · cases hn
    · rename_i hc
      by_cases h1 : rdN p ≤ m
      · exact PText_no3 m h h0 h1 hm (by rw [e1, e2]; rw [e1] at h1; omega)
      · exact PText_no2 m h h0 (by omega)
theorem takeBit_ok {b : Bool} (h : Prs w gp g B p 4) (hp : pbit p = some (b, q)) :
    Calls Tryd.prog 68 #[.pointer (some ⟨gp, 0, none⟩)] w fun r w' => r = .returned (.bool b) ∧ Prs w' gp g B q 4 ∧ w.grownBy w' (some g) := by
  unfold pbit at hp
  split at hp
  · cases hp
  · rename_i x r
    split at hp
    · rename_i hx
      injection hp with hp
      injection hp with h1 h2
      subst h2
      have hd : decide (x ≤ 1) = true := by simpa using hx
      have C := Lib.hid (PByte_ok h)
      clear h
      go_enter Tryd.func68, Tryd.ntmps68
      go_wp2_with fail
      refine C.out.mono ?_
      rintro e w1 ⟨rfl, hp1, g1⟩
      have G1 := Lib.hid g1
      have M := Lib.hid (PMust_ok hp1)
      clear hp1 g1
      go_wp2_with fail
      refine M.out.mono ?_
      rintro e w2 ⟨rfl, hp2, g2⟩
      have G2 := Lib.hid (only_then G1.out g2)
      have P2 := Lib.hid hp2
      clear hp2 g2
      go_wp2_with fail
      go_ret
      exact ⟨rfl, P2.out, G2.out⟩
    · cases hp
theorem takeBit_no (h : Prs w gp g B p 4) (hp : pbit p = none) :
    Calls Tryd.prog 68 #[.pointer (some ⟨gp, 0, none⟩)] w fun r w' => r = dies 4 ∧ w.grownBy w' (some g) := by
  unfold pbit at hp
  split at hp
  · have C := Lib.hid (PByte_no h)
    clear h
    go_enter Tryd.func68, Tryd.ntmps68
    go_wp2_with fail
    refine C.out.mono ?_
    rintro e w1 ⟨rfl, g1⟩
    exact ⟨rfl, rfl, g1⟩
  · rename_i x r
    split at hp
    · cases hp
    · rename_i hx
      have hd : decide (x ≤ 1) = false := by simpa using hx
      have C := Lib.hid (PByte_ok h)
      clear h
      go_enter Tryd.func68, Tryd.ntmps68
      go_wp2_with fail
      refine C.out.mono ?_
      rintro e w1 ⟨rfl, hp1, g1⟩
      have G1 := Lib.hid g1
      have M := Lib.hid (PMust_no hp1)
      clear hp1 g1
      go_wp2_with fail
      refine M.out.mono ?_
      rintro e w2 ⟨rfl, g2⟩
      exact ⟨rfl, rfl, only_then G1.out g2⟩
theorem Rdr.apart {k : Nat} {w' : World} {e : Int} (h : Rdr w g B p e) (hg : w.grownBy w' (some k)) (hne : k ≠ g) (hB : B ≤ k) : Rdr w' g B p e := by
  have hl := h.lt
  have hle := h.le
  obtain ⟨A, c, kb, h1, h2, h3, h4⟩ := h.blk
  exact ⟨⟨A, c, kb.grown hg (fun e => by injection e with e; exact hne e.symm), h1, h2, h3.grown hg (by omega) (fun r hr => by injection hr with hr; omega), h4⟩, h.bytes, h.le, h.small⟩
theorem Prs.apart {k : Nat} {w' : World} (h : Prs w gp g B p L) (hg : w.grownBy w' (some k)) (h1 : k ≠ g) (h2 : k ≠ gp) (hB : B ≤ k) : Prs w' gp g B p L :=
  ⟨h.pb.grown hg (fun e => by injection e with e; exact h2 e.symm), h.rd.apart hg h1 hB, h.le⟩
theorem only_set_new {a w : World} {row : Option Nat} (h : a.grownBy w row) {p : Addr} (hp : a.heap.size ≤ p.block) (u : Value) : a.grownBy (w.setCell p u) row :=
  ⟨h.os, h.tape, h.output, by simpa [World.setCell] using h.size, fun i hi hne => (Below.heap_setCell w p u i (by rintro rfl; omega)).trans (h.block i hi hne)⟩
theorem info_place : (Tryd.prog.info? 25).map (·.size) = some 2 := by kernel_rfl
theorem takePlace_ok {a b : Int} (h : Prs w gp g B p 4) (hp : pplace p = some ((a, b), q)) :
    Calls Tryd.prog 69 #[.pointer (some ⟨gp, 0, none⟩)] w fun r w' => r = .returned (.agg #[.int .u64 a, .int .u64 b]) ∧ Prs w' gp g B q 4 ∧ w.grownBy w' (some g) := by
  unfold pplace at hp
  split at hp
  · cases hp
  · rename_i a' q1 h1
    split at hp
    · cases hp
    · rename_i b' q2 h2
      injection hp with hp
      injection hp with e1 e2
      injection e1 with e1 e3
      subst e1 e2 e3
      obtain ⟨W, hW⟩ : ∃ W, W = w.alloc (.cells #[.int .u64 0, .int .u64 0] 25) := ⟨_, rfl⟩
      have hb : Below w.heap.size w W := by rw [hW]; exact (Below.refl _ _).alloc (Nat.le_refl _) _
      have K0 := Lib.hid (show Blk W w.heap.size 25 #[.int .u64 0, .int .u64 0] by rw [hW]; exact Blk.new _ _ _)
      have hgw := h.rd.lt
      have hgpw := h.pb.lt
      have hBg := h.rd.le
      have C := Lib.hid (WNum_ok (h.below hb) h1)
      have G0 := Lib.hid (only_below hb (some g))
      have HW := Lib.hid hW
      clear h hb hW
      go_enter Tryd.func69, Tryd.ntmps69
      go_wp2_with fail
      rw [← HW.out]
      refine C.out.mono ?_
      rintro e w1 ⟨rfl, hp1, g1⟩
      have G1 := Lib.hid (only_then G0.out g1)
      have K1 := Lib.hid (K0.out.grown g1 (fun e => by injection e with e; omega))
      have C2 := Lib.hid (WNum_ok hp1 h2)
      clear hp1 g1
      go_wp2_with fail
      refine C2.out.mono ?_
      rintro e w2 ⟨rfl, hp2, g2⟩
      have G2 := Lib.hid (only_then G1.out g2)
      have k2 := K1.out.grown g2 (fun e => by injection e with e; omega)
      have P2 := Lib.hid hp2
      have f0 := k2.cell 0
      have f1 := k2.cell 1
      have z0 := k2.frozen 0
      have z1 := k2.frozen 1
      have zz := k2.lt
      simp at f0 f1
      have gs := only_set (only_set (only_refl w2 (some w.heap.size)) (p := ⟨w.heap.size, 0, none⟩) rfl (.int .u64 a')) (p := ⟨w.heap.size, 1, none⟩) rfl (.int .u64 b')
      have P3 := Lib.hid (hp2.apart gs (by omega) (by omega) (by omega))
      have G3 := Lib.hid (only_set_new (only_set_new G2.out (p := ⟨w.heap.size, 0, none⟩) (Nat.le_refl _) (.int .u64 a')) (p := ⟨w.heap.size, 1, none⟩) (Nat.le_refl _) (.int .u64 b'))
      have k3 : Blk ((w2.setCell ⟨w.heap.size, 0, none⟩ (.int .u64 a')).setCell ⟨w.heap.size, 1, none⟩ (.int .u64 b')) w.heap.size 25 #[.int .u64 a', .int .u64 b'] := by
        have := (k2.set_ 0 (.int .u64 a')).set_ 1 (.int .u64 b')
        simpa using this
      have K3 := Lib.hid k3
      clear hp2 g2 k2 gs k3
      go_wp2_with fail
      exact bodyPost_ret (results_cell_row rfl _ _ w.heap.size 25 #[.int .u64 a', .int .u64 b'] (0, 0) _ rfl K3.out Tryd.underlying25 rfl info_place) rfl ⟨rfl, P3.out, G3.out⟩
theorem takePlace_no (h : Prs w gp g B p 4) (hp : pplace p = none) :
    Calls Tryd.prog 69 #[.pointer (some ⟨gp, 0, none⟩)] w fun r w' => r = dies 4 ∧ w.grownBy w' (some g) := by
  obtain ⟨W, hW⟩ : ∃ W, W = w.alloc (.cells #[.int .u64 0, .int .u64 0] 25) := ⟨_, rfl⟩
  have hb : Below w.heap.size w W := by rw [hW]; exact (Below.refl _ _).alloc (Nat.le_refl _) _
  have HP := Lib.hid (h.below hb)
  have G0 := Lib.hid (only_below hb (some g))
  have HW := Lib.hid hW
  clear h hb hW
  unfold pplace at hp
  split at hp
  · rename_i h1
    have C := Lib.hid (WNum_no HP.out h1)
    go_enter Tryd.func69, Tryd.ntmps69
    go_wp2_with fail
    rw [← HW.out]
    refine C.out.mono ?_
    rintro e w1 ⟨rfl, g1⟩
    exact ⟨rfl, rfl, only_then G0.out g1⟩
  · rename_i a' q1 h1
    split at hp
    · rename_i h2
      have C := Lib.hid (WNum_ok HP.out h1)
      go_enter Tryd.func69, Tryd.ntmps69
      go_wp2_with fail
      rw [← HW.out]
      refine C.out.mono ?_
      rintro e w1 ⟨rfl, hp1, g1⟩
      have G1 := Lib.hid (only_then G0.out g1)
      have C2 := Lib.hid (WNum_no hp1 h2)
      clear hp1 g1
      go_wp2_with fail
      refine C2.out.mono ?_
      rintro e w2 ⟨rfl, g2⟩
      exact ⟨rfl, rfl, only_then G1.out g2⟩
    · cases hp
theorem pnums_cut : ∀ {k : Nat} {p : List Int} {l q : List Int}, pnums k p = some (l, q) → l.length = k
  | 0, p, l, q, h => by simp [pnums] at h; simp [h.1.symm]
  | k + 1, p, l, q, h => by
    unfold pnums at h
    split at h
    · cases h
    · split at h
      · cases h
      · rename_i l' r' h2
        injection h with h
        injection h with h1 _
        rw [← h1, List.length_cons, pnums_cut h2]
theorem Prs.row {row : Option Nat} {w' : World} (h : Prs w gp g B p L) (hg : w.grownBy w' row) (hr : ∀ k, row = some k → k ≠ g ∧ k ≠ gp ∧ B ≤ k) : Prs w' gp g B p L := by
  have hl := h.rd.lt
  have hle := h.rd.le
  obtain ⟨A, c, kb, h1, h2, h3, h4⟩ := h.rd.blk
  exact ⟨h.pb.grown hg (fun e => (hr gp e.symm).2.1 rfl), ⟨⟨A, c, kb.grown hg (fun e => (hr g e.symm).1 rfl), h1, h2, h3.grown hg (by omega) (fun r e => (hr r e).2.2), h4⟩, h.rd.bytes, h.rd.le, h.rd.small⟩, h.le⟩
theorem only_row_new {a b c : World} {row row2 : Option Nat} (h : a.grownBy b row) (hg : b.grownBy c row2) (hr : ∀ k, row2 = some k → a.heap.size ≤ k) : a.grownBy c row :=
  ⟨hg.os.trans h.os, hg.tape.trans h.tape, hg.output.trans h.output, Nat.le_trans h.size hg.size, fun i hi hne => (hg.block i (Nat.lt_of_lt_of_le hi h.size) (fun e => by have := hr i e.symm; omega)).trans (h.block i hi hne)⟩
set_option maxHeartbeats 800000 in
theorem takeList_ok {l : List Int} (h : Prs w gp g B p 4) (hp : plist p = some (l, q)) :
    Calls Tryd.prog 70 #[.pointer (some ⟨gp, 0, none⟩)] w fun r w' => ∃ A' c', r = .returned (.slice A' l.length c') ∧ OwnV w' w.heap.size 22 1 A' c' l.length (IV .u64 l) ∧ Prs w' gp g B q 4 ∧ w.grownBy w' (some g) := by
  unfold plist at hp
  split at hp
  · cases hp
  · rename_i n q1 h1
    split at hp
    · rename_i hn8
      have hn0 := (pnum_bd h.rd.bytes h1).1
      obtain ⟨N, rfl⟩ : ∃ N : Nat, n = (N : Int) := ⟨n.toNat, by omega⟩
      rw [Int.toNat_natCast] at hp
      have hlN := pnums_cut hp
      have hN8 : N ≤ 8 := by omega
      have hd : decide ((N : Int) ≤ 8) = true := by simp; omega
      have hd2 : decide (N ≤ 8) = true := by simp; omega
      have hgw := h.rd.lt
      have hgpw := h.pb.lt
      have hBg := h.rd.le
      have C := Lib.hid (WNum_ok h h1)
      have HPN := Lib.hid hp
      clear h h1 hp hn8 hn0
      go_enter Tryd.func70, Tryd.ntmps70
      go_wp2_with fail
      refine C.out.mono ?_
      rintro e w1 ⟨rfl, hp1, g1⟩
      have G1 := Lib.hid g1
      have M := Lib.hid (PMust_ok hp1)
      clear hp1 g1
      go_wp2_with fail
      refine M.out.mono ?_
      rintro e w2 ⟨rfl, hp2, g2⟩
      have G2 := Lib.hid (only_then G1.out g2)
      have P2 := Lib.hid hp2
      clear hp2 g2 M C
      go_wp2_with fail
      go_loopw [4, 12] (fun lv iv wr => ∃ (j : Nat) (rest : List Int) (A1 : Option Addr) (c1 : Nat), lv = .slice A1 j c1 ∧ iv = .int .u64 j ∧ j ≤ N ∧ Hid (pnums (N - j) rest = some (l.drop j, q) ∧ OwnV wr w.heap.size 22 1 A1 c1 j (IV .u64 (l.take j)) ∧ Prs wr gp g B rest 4 ∧ w.grownBy wr (some g))) (fun _ iv _ => N - (intOf iv).toNat)
      case atStart => exact ⟨0, q1, none, 0, rfl, rfl, by omega, Lib.hid ⟨by simpa using HPN.out, OwnV.nil _ _ _ _, P2.out, G2.out⟩⟩
      case round =>
        obtain ⟨j, rest, A1, c1, rfl, rfl, hj, HI⟩ := hrel
        rename World => wr
        by_cases hlt : j < N
        · have hjl : j < l.length := by omega
          have hi := HI.out.1
          rw [show N - j = (N - (j + 1)) + 1 by omega, List.drop_eq_getElem_cons hjl] at hi
          unfold pnums at hi
          split at hi
          · cases hi
          · rename_i a r1 hr1
            split at hi
            · cases hi
            · rename_i l2 r2 hr2
              injection hi with hi
              injection hi with e1 e2
              injection e1 with e1 e3
              have htk : l.take (j + 1) = l.take j ++ [a] := by rw [List.take_succ_eq_append_getElem hjl, ← e1]
              have HR2 := Lib.hid (show pnums (N - (j + 1)) r1 = some (l.drop (j + 1), q) by rw [hr2, e3, e2])
              have HTK := Lib.hid htk
              have C := Lib.hid (WNum_ok HI.out.2.2.1 hr1)
              have hwr : IntKind.u64.wrap ((j : Int) + 1) = ((j + 1 : Nat) : Int) := by rw [IntWalk.u64_in _ (by omega)]; omega
              have hgz := HI.out.2.2.2.size
              clear e1 e2 e3 htk hr1 hr2
              go_wp2_with fail
              refine C.out.mono ?_
              rintro e w3 ⟨rfl, hp3, g3⟩
              have P3 := Lib.hid hp3
              have G3 := Lib.hid (only_then HI.out.2.2.2 g3)
              have O3 := Lib.hid (HI.out.2.1.grown g3 (fun g' cur k e => by
                injection e with e
                subst e
                obtain ⟨A, c, k2, _⟩ := HI.out.2.2.1.rd.blk
                exact absurd rfl (k.ne_ k2 (by decide))))
              have hz3 := G3.out.size
              have R1 := Lib.hid (reads_one w3 22 (.int .u64 a) w.heap.size)
              clear hp3 g3 C
              go_wp2_with (at_builtin; go_must (refine wpList_appV rfl (.tmp 14) (.tmp 17) 26 22 1 8 (.int .u64 0) rfl Tryd.underlying26 info_u64 rfl (by omega) w.heap.size (n := j) (m := 1) (xs := IV .u64 (l.take j)) (news := [.int .u64 a]) (d := 1) rfl rfl (OwnV.below O3.out ((Below.refl _ _).alloc (Nat.le_refl _) _)) R1.out (by intro u hu; simp at hu; subst hu; rfl) (by unfold maxLen; omega) (by omega) (by simp; omega) ?_); intro A4 c4 w4 hown hg4 hb4)
              have O4 := Lib.hid (show OwnV w4 w.heap.size 22 1 A4 c4 (j + 1) (IV .u64 (l.take (j + 1))) by rw [HTK.out, IV_append]; exact hown)
              have P4 := Lib.hid ((P3.out.below ((Below.refl _ _).alloc (Nat.le_refl _) (.cells #[.int .u64 a] 22))).row hg4 (fun k hk => by have := OwnV.row_ge O3.out k hk; omega))
              have G4 := Lib.hid (only_row_new (only_then G3.out (only_below ((Below.refl _ _).alloc (Nat.le_refl _) (.cells #[.int .u64 a] 22)) (some g))) hg4 (fun k hk => OwnV.row_ge O3.out k hk))
              clear hown hg4 hb4
              go_roundw
              case rel => exact ⟨j + 1, r1, A4, c4, rfl, by go_num, by omega, Lib.hid ⟨HR2.out, O4.out, P4.out, G4.out⟩⟩
              case measure => simp [intOf]; omega
        · have hd3 : decide ((j : Int) < (N : Int)) = false := by simp; omega
          have hd4 : decide (j < N) = false := by simp; omega
          obtain rfl : j = N := by omega
          have hi := HI.out
          rw [Nat.sub_self] at hi
          unfold pnums at hi
          have e1 : rest = q := by have := hi.1; injection this with this; injection this
          subst e1
          have htk : l.take j = l := List.take_of_length_le (by omega)
          rw [htk] at hi
          have HI2 := Lib.hid hi.2
          clear hi htk HI
          go_wp2_with fail
          go_ret
          rw [← hlN] at HI2
          exact ⟨A1, c1, by rw [hlN]; rfl, HI2.out.1, HI2.out.2.1, HI2.out.2.2⟩
    · cases hp
end
end Go.Proofs.YtfedofoadfipcaaDoor
