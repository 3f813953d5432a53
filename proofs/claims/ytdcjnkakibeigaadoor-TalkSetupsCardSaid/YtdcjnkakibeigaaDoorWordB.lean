/-
  takeList that falls; a message by value, and where it stands.
-/
import Derived.Test.YtdcjnkakibeigaaDoorWordA
import Derived.Test.YtdcjnkakibeigaaDoorFlat
namespace Go.Proofs.YtdcjnkakibeigaaDoor
open Go.RowKit
set_option linter.unusedVariables false
set_option linter.unusedSimpArgs false
section
variable {gp g B : Nat} {p q : List Int} {L : Int} {w : World}
end
/-- A message by value. -/
structure MV where
  kind : Int
  id : Int
  alias_ : Int
  name : List Int
  prio : Int
  ord : Int
  sg : Int
  so : Int
  eg : Int
  eo : Int
  some_ : Bool
  code : Int
  reason : List Int
  n : Int
  ver : Int
  vers : List Int
/-- The cells of a message whose slices stand so. -/
def mvC (m : MV) (nA : Option Addr) (nc : Nat) (rA : Option Addr) (rc : Nat) (vA : Option Addr) (vc : Nat) : Array Value :=
  #[.int .u64 m.kind, .int .u64 m.id, .int .u64 m.alias_, .slice nA m.name.length nc, .int .u8 m.prio, .int .u8 m.ord, .int .u64 m.sg, .int .u64 m.so, .int .u64 m.eg, .int .u64 m.eo, .bool m.some_, .int .u64 m.code, .slice rA m.reason.length rc, .int .u64 m.n, .int .u64 m.ver, .slice vA m.vers.length vc]
/-- The message at gm, its rows the call's own. -/
structure MsgAt (w : World) (gm base : Nat) (m : MV) : Prop where
  ex : ∃ nA nc rA rc vA vc, Blk w gm 31 (mvC m nA nc rA rc vA vc) ∧ Own w base nA nc m.name ∧ Own w base rA rc m.reason ∧ OwnV w base 22 1 vA vc m.vers.length (IV .u64 m.vers)
  lo : gm < base
/-- What a field of a message is taken to. -/
def takeF (k : Nat) (m : MV) (p : List Int) : Option (MV × List Int) :=
  match k with
  | 0 => (pnum p).map fun r => ({ m with id := r.1 }, r.2)
  | 1 => (pnum p).map fun r => ({ m with alias_ := r.1 }, r.2)
  | 2 => (ptext 32 p).map fun r => ({ m with name := r.1 }, r.2)
  | 3 => match p with
    | [] => none
    | x :: r => some ({ m with prio := x }, r)
  | 4 => match p with
    | [] => none
    | x :: r => some ({ m with ord := x }, r)
  | 5 => (pbit p).map fun r => ({ m with some_ := r.1 }, r.2)
  | 6 => (pplace p).map fun r => ({ m with sg := r.1.1, so := r.1.2 }, r.2)
  | 7 => if m.kind = 3 then (pnum p).map fun r => ({ m with eg := r.1 }, r.2) else (pplace p).map fun r => ({ m with eg := r.1.1, eo := r.1.2 }, r.2)
  | 8 => (pnum p).map fun r => ({ m with code := r.1 }, r.2)
  | 9 => (ptext 64 p).map fun r => ({ m with reason := r.1 }, r.2)
  | 10 => (plist p).map fun r => ({ m with vers := r.1 }, r.2)
  | 11 => (pnum p).map fun r => ({ m with ver := r.1 }, r.2)
  | 12 => (pnum p).map fun r => ({ m with n := r.1 }, r.2)
  | _ => some (m, p)
end Go.Proofs.YtdcjnkakibeigaaDoor
