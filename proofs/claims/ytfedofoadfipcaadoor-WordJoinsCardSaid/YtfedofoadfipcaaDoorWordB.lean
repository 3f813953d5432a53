/-
  takeList that falls; a message by value, and where it stands.
-/
import Derived.Test.YtfedofoadfipcaaDoorWordA
import Derived.Test.YtfedofoadfipcaaDoorFlat
namespace Go.Proofs.YtfedofoadfipcaaDoor
open Go.RowKit
set_option linter.unusedVariables false
set_option linter.unusedSimpArgs false
section
variable {gp g B : Nat} {p q : List Int} {L : Int} {w : World}
theorem takeList_no (h : Prs w gp g B p 4) (hp : plist p = none) :
    Calls Tryd.prog 70 #[.pointer (some ⟨gp, 0, none⟩)] w fun r w' => r = dies 4 ∧ w.grownBy w' (some g) := by
  unfold plist at hp
  split at hp
  · rename_i h1
    have C := Lib.hid (WNum_no h h1)
    clear h
    go_enter Tryd.func70, Tryd.ntmps70
    go_wp2_with fail
    refine C.out.mono ?_
    rintro e w1 ⟨rfl, g1⟩
    exact ⟨rfl, rfl, g1⟩
  · rename_i n q1 h1
    have hn0 := (pnum_bd h.rd.bytes h1).1
    obtain ⟨N, rfl⟩ : ∃ N : Nat, n = (N : Int) := ⟨n.toNat, by omega⟩
    have C := Lib.hid (WNum_ok h h1)
    have hgw := h.rd.lt
    have hgpw := h.pb.lt
    have hBg := h.rd.le
    split at hp
    · rename_i hn8
      rw [Int.toNat_natCast] at hp
      have hd : decide ((N : Int) ≤ 8) = true := by simp; omega
      have hd2 : decide (N ≤ 8) = true := by simp; omega
      have HPN := Lib.hid hp
      clear h h1 hp hn0
      go_enter Tryd.func70, Tryd.ntmps70
      go_wp2_with fail
      refine C.out.mono ?_
      rintro e w1 ⟨rfl, hp1, g1⟩
      have G1 := Lib.hid g1
      have M := Lib.hid (PMust_ok hp1)
      clear hp1 g1
      go_wp2_with fail
      refine M.out.mono ?_
      rintro e w2 ⟨rfl, hp2, g2⟩
      have G2 := Lib.hid (only_then G1.out g2)
      have P2 := Lib.hid hp2
      clear hp2 g2 M C
      go_wp2_with fail
      go_loopw [4, 12] (fun lv iv wr => ∃ (j : Nat) (rest xs : List Int) (A1 : Option Addr) (c1 : Nat), lv = .slice A1 j c1 ∧ iv = .int .u64 j ∧ j ≤ N ∧ Hid (pnums (N - j) rest = none ∧ OwnV wr w.heap.size 22 1 A1 c1 j (IV .u64 xs) ∧ Prs wr gp g B rest 4 ∧ w.grownBy wr (some g))) (fun _ iv _ => N - (intOf iv).toNat)
      case atStart => exact ⟨0, q1, [], none, 0, rfl, rfl, by omega, Lib.hid ⟨by simpa using HPN.out, OwnV.nil _ _ _ _, P2.out, G2.out⟩⟩
      case round =>
        obtain ⟨j, rest, xs, A1, c1, rfl, rfl, hj, HI⟩ := hrel
        rename World => wr
        by_cases hlt : j < N
        · have hi := HI.out.1
          rw [show N - j = (N - (j + 1)) + 1 by omega] at hi
          unfold pnums at hi
          split at hi
          · rename_i hr1
            have C := Lib.hid (WNum_no HI.out.2.2.1 hr1)
            clear hi hr1
            go_wp2_with fail
            refine C.out.mono ?_
            rintro e w3 ⟨rfl, g3⟩
            exact ⟨rfl, rfl, only_then HI.out.2.2.2 g3⟩
          · rename_i a r1 hr1
            split at hi
            · rename_i hr2
              have HR2 := Lib.hid hr2
              have C := Lib.hid (WNum_ok HI.out.2.2.1 hr1)
              have hwr : IntKind.u64.wrap ((j : Int) + 1) = ((j + 1 : Nat) : Int) := by rw [IntWalk.u64_in _ (by omega)]; omega
              have hgz := HI.out.2.2.2.size
              clear hi hr1 hr2
              go_wp2_with fail
              refine C.out.mono ?_
              rintro e w3 ⟨rfl, hp3, g3⟩
              have P3 := Lib.hid hp3
              have G3 := Lib.hid (only_then HI.out.2.2.2 g3)
              have O3 := Lib.hid (HI.out.2.1.grown g3 (fun g' cur k e => by
                injection e with e
                subst e
                obtain ⟨A, c, k2, _⟩ := HI.out.2.2.1.rd.blk
                exact absurd rfl (k.ne_ k2 (by decide))))
              have hz3 := G3.out.size
              have R1 := Lib.hid (reads_one w3 22 (.int .u64 a) w.heap.size)
              clear hp3 g3 C
              go_wp2_with (at_builtin; go_must (refine wpList_appV rfl (.tmp 14) (.tmp 17) 26 22 1 8 (.int .u64 0) rfl Tryd.underlying26 info_u64 rfl (by omega) w.heap.size (n := j) (m := 1) (xs := IV .u64 xs) (news := [.int .u64 a]) (d := 1) rfl rfl (OwnV.below O3.out ((Below.refl _ _).alloc (Nat.le_refl _) _)) R1.out (by intro u hu; simp at hu; subst hu; rfl) (by unfold maxLen; omega) (by omega) (by simp; omega) ?_); intro A4 c4 w4 hown hg4 hb4)
              have O4 := Lib.hid (show OwnV w4 w.heap.size 22 1 A4 c4 (j + 1) (IV .u64 (xs ++ [a])) by rw [IV_append]; exact hown)
              have P4 := Lib.hid ((P3.out.below ((Below.refl _ _).alloc (Nat.le_refl _) (.cells #[.int .u64 a] 22))).row hg4 (fun k hk => by have := OwnV.row_ge O3.out k hk; omega))
              have G4 := Lib.hid (only_row_new (only_then G3.out (only_below ((Below.refl _ _).alloc (Nat.le_refl _) (.cells #[.int .u64 a] 22)) (some g))) hg4 (fun k hk => OwnV.row_ge O3.out k hk))
              clear hown hg4 hb4
              go_roundw
              case rel => exact ⟨j + 1, r1, xs ++ [a], A4, c4, rfl, by go_num, by omega, Lib.hid ⟨HR2.out, O4.out, P4.out, G4.out⟩⟩
              case measure => simp [intOf]; omega
            · cases hi
        · have hi := HI.out.1
          rw [show N - j = 0 by omega] at hi
          cases hi
    · rename_i hn8
      have hd : decide ((N : Int) ≤ 8) = false := by simp; omega
      have hd2 : decide (N ≤ 8) = false := by simp; omega
      clear h h1 hp hn0
      go_enter Tryd.func70, Tryd.ntmps70
      go_wp2_with fail
      refine C.out.mono ?_
      rintro e w1 ⟨rfl, hp1, g1⟩
      have G1 := Lib.hid g1
      have M := Lib.hid (PMust_no hp1)
      clear hp1 g1
      go_wp2_with fail
      refine M.out.mono ?_
      rintro e w2 ⟨rfl, g2⟩
      exact ⟨rfl, rfl, only_then G1.out g2⟩
end
/-- A message by value. -/
structure MV where
  kind : Int
  id : Int
  alias_ : Int
  name : List Int
  prio : Int
  ord : Int
  sg : Int
  so : Int
  eg : Int
  eo : Int
  some_ : Bool
  code : Int
  reason : List Int
  n : Int
  ver : Int
  vers : List Int
/-- The cells of a message whose slices stand so. -/
def mvC (m : MV) (nA : Option Addr) (nc : Nat) (rA : Option Addr) (rc : Nat) (vA : Option Addr) (vc : Nat) : Array Value :=
  #[.int .u64 m.kind, .int .u64 m.id, .int .u64 m.alias_, .slice nA m.name.length nc, .int .u8 m.prio, .int .u8 m.ord, .int .u64 m.sg, .int .u64 m.so, .int .u64 m.eg, .int .u64 m.eo, .bool m.some_, .int .u64 m.code, .slice rA m.reason.length rc, .int .u64 m.n, .int .u64 m.ver, .slice vA m.vers.length vc]
/-- The message at gm, its rows the call's own. -/
structure MsgAt (w : World) (gm base : Nat) (m : MV) : Prop where
  ex : ∃ nA nc rA rc vA vc, Blk w gm 31 (mvC m nA nc rA rc vA vc) ∧ Own w base nA nc m.name ∧ Own w base rA rc m.reason ∧ OwnV w base 22 1 vA vc m.vers.length (IV .u64 m.vers)
  lo : gm < base
/-- What a field of a message is taken to. -/
def takeF (k : Nat) (m : MV) (p : List Int) : Option (MV × List Int) :=
  match k with
  | 0 => (pnum p).map fun r => ({ m with id := r.1 }, r.2)
  | 1 => (pnum p).map fun r => ({ m with alias_ := r.1 }, r.2)
  | 2 => (ptext 32 p).map fun r => ({ m with name := r.1 }, r.2)
  | 3 => match p with
    | [] => none
    | x :: r => some ({ m with prio := x }, r)
  | 4 => match p with
    | [] => none
    | x :: r => some ({ m with ord := x }, r)
  | 5 => (pbit p).map fun r => ({ m with some_ := r.1 }, r.2)
  | 6 => (pplace p).map fun r => ({ m with sg := r.1.1, so := r.1.2 }, r.2)
  | 7 => if m.kind = 3 then (pnum p).map fun r => ({ m with eg := r.1 }, r.2) else (pplace p).map fun r => ({ m with eg := r.1.1, eo := r.1.2 }, r.2)
  | 8 => (pnum p).map fun r => ({ m with code := r.1 }, r.2)
  | 9 => (ptext 64 p).map fun r => ({ m with reason := r.1 }, r.2)
  | 10 => (plist p).map fun r => ({ m with vers := r.1 }, r.2)
  | 11 => (pnum p).map fun r => ({ m with ver := r.1 }, r.2)
  | 12 => (pnum p).map fun r => ({ m with n := r.1 }, r.2)
  | _ => some (m, p)
end Go.Proofs.YtfedofoadfipcaaDoor
