/-
  ItemFalls: the parts (made by mkItemU.py).
-/
import Derived.Test.YtpaglcojbcndoaaDoorItemT
import Derived.Deep.DeepCutAuto
import Derived.Deep.RegionHeld
namespace Go.Proofs.YtpaglcojbcndoaaDoor
open Go.RowKit
set_option linter.unusedVariables false
set_option linter.unusedSimpArgs false
/-- The boxes of the law. -/
structure FaS (w wx : World) (gh ga gb : Nat) (HC CA CB : Array Value) : Prop where
  h : Blk wx gh 50 HC
  a : Blk wx ga 27 CA
  b : Blk wx gb 27 CB
  bel : Below w.heap.size w wx
  lt : w.heap.size ≤ gh ∧ gh < ga ∧ ga < gb
section
variable {w wx wy : World} {gh ga gb : Nat} {HC CA CB NA : Array Value}
theorem FaS.below (h : FaS w wx gh ga gb HC CA CB) (b : Below wx.heap.size wx wy) : FaS w wy gh ga gb HC CA CB :=
  ⟨h.h.below b h.h.lt, h.a.below b h.a.lt, h.b.below b h.b.lt, h.bel.trans (b.mono h.bel.size), h.lt⟩
theorem FaS.drew (h : FaS w wx gh ga gb HC CA CB) : FaS w wx.drew gh ga gb HC CA CB := h.below (Below.refl _ _).drew
theorem FaS.setA (h : FaS w wx gh ga gb HC CA CB) (NA : Array Value) : FaS w (wx.setRow ga NA) gh ga gb HC NA CB := by
  have := h.lt
  exact ⟨setRow_farI h.h (by omega) NA, setRowI h.a NA, setRow_farI h.b (by omega) NA, h.bel.grown (only_setRowI wx ga NA) h.bel.size (fun r hr => by injection hr with hr; omega), h.lt⟩
theorem FaS.setB (h : FaS w wx gh ga gb HC CA CB) (NA : Array Value) : FaS w (wx.setRow gb NA) gh ga gb HC CA NA := by
  have := h.lt
  exact ⟨setRow_farI h.h (by omega) NA, setRow_farI h.a (by omega) NA, setRowI h.b NA, h.bel.grown (only_setRowI wx gb NA) h.bel.size (fun r hr => by injection hr with hr; omega), h.lt⟩
theorem FaS.putA (h : FaS w wx gh ga gb HC CA CB) (i : Nat) (v : Value) : FaS w (wx.setCell ⟨ga, i, none⟩ v) gh ga gb HC (CA.setIfInBounds i v) CB := by
  have := h.lt
  exact ⟨h.h.far (p := ⟨ga, i, none⟩) (by show gh ≠ ga; omega) v, h.a.set_ i v, h.b.far (p := ⟨ga, i, none⟩) (by show gb ≠ ga; omega) v, h.bel.setCell (p := ⟨ga, i, none⟩) (by show w.heap.size ≤ ga; omega) v, h.lt⟩
theorem FaS.putB (h : FaS w wx gh ga gb HC CA CB) (i : Nat) (v : Value) : FaS w (wx.setCell ⟨gb, i, none⟩ v) gh ga gb HC CA (CB.setIfInBounds i v) := by
  have := h.lt
  exact ⟨h.h.far (p := ⟨gb, i, none⟩) (by show gh ≠ gb; omega) v, h.a.far (p := ⟨gb, i, none⟩) (by show ga ≠ gb; omega) v, h.b.set_ i v, h.bel.setCell (p := ⟨gb, i, none⟩) (by show w.heap.size ≤ gb; omega) v, h.lt⟩
end
theorem own_setRowT {w : World} {base c X : Nat} {A : Option Addr} {l : List Int} {T : TypeId} {cs : Array Value} (h : Own w base A c l) (k : Blk w X T cs) (hT : T ≠ 5) (N : Array Value) : Own (w.setRow X N) base A c l :=
  OwnV.apart (show OwnV w base 5 1 A c l.length (U8 l) from h) (only_setRowI w X N) (fun q hq e => by injection e with e; exact own_ne h k hT q hq e.symm)
theorem own_setT {w : World} {base c X : Nat} {A : Option Addr} {l : List Int} {T : TypeId} {cs : Array Value} (h : Own w base A c l) (k : Blk w X T cs) (hT : T ≠ 5) (i : Nat) (v : Value) : Own (w.setCell ⟨X, i, none⟩ v) base A c l :=
  OwnV.apart (show OwnV w base 5 1 A c l.length (U8 l) from h) (only_set (only_refl w (some X)) (p := ⟨X, i, none⟩) rfl v) (fun q hq e => by injection e with e; exact own_ne h k hT q hq e.symm)
/-- .. with the objects' data. -/
structure FaX (w wx : World) (gh ga gb : Nat) (HC : Array Value) (a b : OV) (A1 : Option Addr) (c1 : Nat) (A2 : Option Addr) (c2 : Nat) : Prop where
  s : FaS w wx gh ga gb HC (ovC a A1 c1) (ovC b A2 c2)
  da : Own wx w.heap.size A1 c1 a.data
  db : Own wx w.heap.size A2 c2 b.data
section
variable {w wx wy : World} {gh ga gb : Nat} {HC : Array Value} {a b : OV} {A1 A2 : Option Addr} {c1 c2 : Nat}
theorem FaX.below (h : FaX w wx gh ga gb HC a b A1 c1 A2 c2) (hb : Below wx.heap.size wx wy) : FaX w wy gh ga gb HC a b A1 c1 A2 c2 := ⟨h.s.below hb, Own.below h.da hb, Own.below h.db hb⟩
theorem FaX.gram (h : FaX w wx gh ga gb HC a b A1 c1 A2 c2) : FaX w ((wx.setCell ⟨ga, 3, none⟩ (.bool false)).setCell ⟨gb, 3, none⟩ (.bool false)) gh ga gb HC { a with gram := false } { b with gram := false } A1 c1 A2 c2 := by
  have s1 := h.s.putA 3 (.bool false)
  exact ⟨s1.putB 3 (.bool false), own_setT (own_setT h.da h.s.a (by decide) 3 _) s1.b (by decide) 3 _, own_setT (own_setT h.db h.s.a (by decide) 3 _) s1.b (by decide) 3 _⟩
theorem FaX.place (h : FaX w wx gh ga gb HC a b A1 c1 A2 c2) (g p : Int) : FaX w ((((wx.setCell ⟨ga, 0, none⟩ (.int .u64 g)).setCell ⟨ga, 2, none⟩ (.int .u8 p)).setCell ⟨gb, 0, none⟩ (.int .u64 g)).setCell ⟨gb, 2, none⟩ (.int .u8 p)) gh ga gb HC { a with grp := g, prio := p } { b with grp := g, prio := p } A1 c1 A2 c2 := by
  have s1 := h.s.putA 0 (.int .u64 g)
  have s2 := s1.putA 2 (.int .u8 p)
  have s3 := s2.putB 0 (.int .u64 g)
  exact ⟨s3.putB 2 (.int .u8 p), own_setT (own_setT (own_setT (own_setT h.da h.s.a (by decide) 0 _) s1.a (by decide) 2 _) s2.b (by decide) 0 _) s3.b (by decide) 2 _, own_setT (own_setT (own_setT (own_setT h.db h.s.a (by decide) 0 _) s1.a (by decide) 2 _) s2.b (by decide) 0 _) s3.b (by decide) 2 _⟩
end
/-- An object made to fit the stream. -/
def adj (h : IH) (o : OV) : OV := if h.fe then { o with gram := false } else { o with gram := false, grp := h.gr, prio := h.pr }
/-- An answer of bytes and an error. -/
structure RetE (w w' : World) (ok : Bool) (l : List Int) (r : Ending) : Prop where
  ex : ∃ A c n e, r = .returned (.tuple #[.slice A n c, .int .i64 e]) ∧ (ok = true → e = 0 ∧ n = l.length ∧ Own w' w.heap.size A c l) ∧ (ok = false → e ≠ 0)
  bel : Below w.heap.size w w'
theorem BegTo.ret {w w' : World} {h : IH} {r : Ending} (q : BegTo w w' h r) : RetE w w' (beginOk h) (beginB h) r := by
  refine ⟨?_, q.bel⟩
  cases hb : beginOk h with
  | true =>
    obtain ⟨A, c, e, o⟩ := q.ok hb
    exact ⟨A, c, _, 0, e, (fun _ => ⟨rfl, rfl, o⟩), (fun h => by cases h)⟩
  | false => exact ⟨none, 0, 0, 4, q.no hb, (fun h => by cases h), (fun _ => by decide)⟩
theorem NxtTo.ret {w w' : World} {h : IH} {o : OV} {r : Ending} (q : NxtTo w w' h o r) : RetE w w' (nextOk h o) (nextB h o) r := by
  refine ⟨?_, q.bel⟩
  cases hb : nextOk h o with
  | true =>
    obtain ⟨A, c, e, o⟩ := q.ok hb
    exact ⟨A, c, _, 0, e, (fun _ => ⟨rfl, rfl, o⟩), (fun h => by cases h)⟩
  | false => exact ⟨none, 0, 0, _, q.no hb, (fun h => by cases h), (fun _ => by split <;> decide)⟩
/-- What Few answers, its cells by name. -/
structure FewN (w w' : World) (o : OV) (r : Ending) : Prop where
  ex : ∃ A c N, r = .returned (.agg N) ∧ Hid (N = ovC (cutO o) A c) ∧ Hid (Own w' w.heap.size A c (cutO o).data)
  bel : Below w.heap.size w w'
theorem FewO.named {w w' : World} {o : OV} {r : Ending} (h : FewO w w' o r) : FewN w w' o r := by
  obtain ⟨A, c, e, ho⟩ := h.ex
  exact ⟨⟨A, c, _, e, Lib.hid rfl, Lib.hid ho⟩, h.bel⟩
theorem ovC_size {N : Array Value} {o : OV} {A : Option Addr} {c : Nat} (h : N = ovC o A c) : N.size = 5 := by rw [h]; rfl
theorem ovC_all {N : Array Value} {o : OV} {A : Option Addr} {c : Nat} (h : N = ovC o A c) : N.all (·.oneCell') = true := by rw [h]; simp [ovC, Value.oneCell']
theorem rd_grown {w w' : World} {A : Option Addr} {l : List Int} {row : Option Nat} (h : Rd w A l) (hg : w.grownBy w' row) (hn : ∀ k, row = some k → ∀ ad, A = some ad → ad.block ≠ k) : Rd w' A l := by
  refine ⟨h.1, fun hl => ?_⟩
  obtain ⟨ad, e, hlt, hc⟩ := h.2 hl
  refine ⟨ad, e, Nat.lt_of_lt_of_le hlt hg.size, fun j u hu => ?_⟩
  rw [← hc j u hu]
  exact World.cell?_of_block (a := ad.add j) (hg.block (ad.add j).block (by rw [block_of_add]; exact hlt) (by rw [block_of_add]; exact fun e2 => hn ad.block e2.symm ad e rfl))
theorem same_of {w : World} {oA B : Option Addr} {oc d : Nat} {xs ys : List RO} (hx : RdF ROC 5 w oA xs) (hy : RdF ROC 5 w B ys) (he : xs.map RO.o = ys.map RO.o) (hdx : ∀ x ∈ xs, Rd w x.A x.o.data ∧ Bytes x.o.data) (hdy : ∀ y ∈ ys, Rd w y.A y.o.data) (hl : xs.length ≤ 1000000) :
    Calls Tryd.prog 14 #[.slice oA xs.length oc, .slice B ys.length d] w fun r w' => r = .returned (.bool true) ∧ Below w.heap.size w w' :=
  (sameO_yes oA B oc d xs ys w hx hy he hdx hdy hl).mono fun r w' h => by
    obtain ⟨h, n, rfl⟩ := h
    exact ⟨h, ⟨rfl, rfl, rfl, Nat.le_refl _, fun _ _ => rfl⟩⟩
theorem rdf_two' {w : World} {g : Nat} {x y : RO} {cs : Array Value} (k : Blk w g 27 cs) (hc : cs.toList = ROC x ++ ROC y) : RdF ROC 5 w (some ⟨g, 0, none⟩) [x, y] := by
  unfold RdF
  refine ⟨by simp [FlV, ROC, ovC], fun _ => ⟨_, rfl, k.lt, fun j u hu => ?_⟩⟩
  have := k.cell j
  have e : FlV ROC [x, y] = cs.toList := by rw [hc]; simp [FlV]
  rw [e] at hu
  have hu' : cs[j]? = some u := by rw [← Array.getElem?_toList]; exact hu
  simp only [Addr.add]
  split
  · rename_i hj; subst hj; rw [this]; exact hu'
  · rw [Nat.zero_add, this]; exact hu'
theorem adj_ok {h : IH} {o X : OV} (hk : IHOk h) (ho : (0 ≤ o.grp ∧ 0 ≤ o.obj) ∧ (0 ≤ o.prio ∧ o.prio < 256) ∧ Bytes (cutO o).data ∧ (cutO o).data.length ≤ 2100) (hX : X = adj h (cutO o)) : (0 ≤ X.grp ∧ 0 ≤ X.obj) ∧ (0 ≤ X.prio ∧ X.prio < 256) ∧ Bytes X.data ∧ X.data.length ≤ 2100 := by
  rw [hX]
  unfold adj
  split
  · exact ho
  · exact ⟨⟨hk.gr, ho.1.2⟩, hk.pr, ho.2.2⟩
end Go.Proofs.YtpaglcojbcndoaaDoor
