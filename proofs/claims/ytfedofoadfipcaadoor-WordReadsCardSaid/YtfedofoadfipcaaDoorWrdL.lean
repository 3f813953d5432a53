/-
  The reference's Read (made by mkWrdL.py).
-/
import Derived.Test.YtfedofoadfipcaaDoorJA
import Derived.Test.YtfedofoadfipcaaDoorJB
import Derived.Deep.RegionHeld
import Derived.Deep.MidRow
namespace Go.Proofs.YtfedofoadfipcaaDoor
open Go.RowKit
set_option linter.unusedVariables false
set_option linter.unusedSimpArgs false
theorem results_row_tmp2W {P : Program} {fn : Func} {p u v : Tmp} {ty : TypeId} (h : fn.results = #[.cell p ty, .tmp u, .tmp v]) (tmps : Array Value) (w : World) (g : Nat) (t : TypeId) (cs : Array Value) (fr : Nat × Nat) (d : TypeDesc)
    (hp : tmps.getD p undef = .pointer (some ⟨g, 0, none⟩)) (hg : w.heap[g]? = some (.cells cs t fr))
    (hu : P.underlying ty = some d) (hd : (match d with | .struct _ | .array _ _ => true | _ => false) = true) (hi : (P.info? ty).map (·.size) = some cs.size) :
    (results fn tmps).run P w = .ok (.tuple #[.agg cs, tmps.getD u undef, tmps.getD v undef]) w := by
  have hl := run_loadVar_row w g t ty cs fr d hg hu hd hi
  have hp' : tmps[p]?.getD undef = .pointer (some ⟨g, 0, none⟩) := by simpa using hp
  simp only [results, h]
  simp [hp', asAddr, hl]
theorem Below.drewNW {B : Nat} {a w : World} (h : Below B a w) (n : Nat) : Below B a (w.drewN n) := h.trans ⟨rfl, rfl, rfl, Nat.le_refl _, fun _ _ => rfl⟩
/-- What the reference's Read answers. -/
structure RReadTo (w w' : World) (p : List Int) (r : Ending) : Prop where
  ok : ∀ m q, readR p = .ok (m, q) → ∃ nA nc rA rc vA vc qA qc, r = .returned (.tuple #[.agg (mvC m nA nc rA rc vA vc), .slice qA q.length qc, .int .i64 0]) ∧ Own w' w.heap.size nA nc m.name ∧ Own w' w.heap.size rA rc m.reason ∧ OwnU w' w.heap.size vA vc m.vers ∧ Own w' w.heap.size qA qc q
  no : ∀ e, readR p = .error e → r = .returned (.tuple #[.agg zeroM, .slice none 0 0, .int .i64 e])
  bel : Below w.heap.size w w'
theorem rread_no {w W : World} {p : List Int} {e : Int} (h : readR p = .error e) (hb : Below w.heap.size w W) (kr : Blk W w.heap.size 28 zeroM) :
    RReadTo w (W.setRow w.heap.size zeroM) p (.returned (.tuple #[.agg zeroM, .slice none 0 0, .int .i64 e])) :=
  ⟨fun m q he => (by rw [h] at he; cases he), fun e' he => (by rw [h] at he; injection he with he; rw [he]), below_gsW hb grow_rowW (Nat.le_refl _) hb.size⟩
/-- The bytes that are left, in the message or behind: in a block below gx, or in one of bytes. -/
structure BAt (w : World) (gx : Nat) (A : Option Addr) (c : Nat) (q : List Int) : Prop where
  sl : Sl w A c q
  ty : ∀ ad, A = some ad → ad.block < w.heap.size ∧ (ad.block < gx ∨ ∃ cs, Blk w ad.block 5 cs)
theorem BAt.of_own {w : World} {gx B0 : Nat} {A : Option Addr} {c : Nat} {q : List Int} (h : Own w B0 A c q) : BAt w gx A c q := by
  refine ⟨Sl.of_own h, fun ad e => ?_⟩
  rcases OwnV.row_is (show OwnV w B0 5 1 A c q.length (U8 q) from h) with ⟨hA, _⟩ | ⟨g, cur, hA, _, hb, _⟩
  · rw [hA] at e; cases e
  · rw [hA] at e
    injection e with e
    subst e
    exact ⟨hb.lt, .inr ⟨cur, hb⟩⟩
theorem BAt.below {w w' : World} {gx : Nat} {A : Option Addr} {c : Nat} {q : List Int} (h : BAt w gx A c q) (hb : Below w.heap.size w w') : BAt w' gx A c q :=
  ⟨h.sl.below hb, fun ad e => ⟨Nat.lt_of_lt_of_le (h.ty ad e).1 hb.size, (h.ty ad e).2.elim (fun x => .inl x) (fun ⟨cs, k⟩ => .inr ⟨cs, k.below hb k.lt⟩)⟩⟩
theorem BAt.grown {w w' : World} {gx : Nat} {row : Option Nat} {A : Option Addr} {c : Nat} {q : List Int} (h : BAt w gx A c q) (hg : w.grownBy w' row) (h1 : ∀ g, row = some g → gx ≤ g) (hne : ∀ k cur, Blk w k 5 cur → row ≠ some k) : BAt w' gx A c q := by
  have hb : ∀ ad, A = some ad → row ≠ some ad.block := fun ad e => by
    rcases (h.ty ad e).2 with x | ⟨cs, k⟩
    · intro er; have := h1 _ er; omega
    · exact hne _ _ k
  refine ⟨⟨⟨h.sl.rd.1, fun hn => ?_⟩, h.sl.le, h.sl.max, h.sl.nil⟩, fun ad e => ⟨Nat.lt_of_lt_of_le (h.ty ad e).1 hg.size, (h.ty ad e).2.elim (fun x => .inl x) (fun ⟨cs, k⟩ => .inr ⟨cs, k.grown hg (fun x => hb ad e x.symm)⟩)⟩⟩
  obtain ⟨ad, e, hlt, hc⟩ := h.sl.rd.2 hn
  refine ⟨ad, e, Nat.lt_of_lt_of_le hlt hg.size, fun j u hu => ?_⟩
  refine (World.cell?_of_block (a := ad.add j) (hg.block (ad.add j).block (by rw [block_of_add]; exact hlt) (by rw [block_of_add]; exact fun x => hb ad e x.symm))).trans (hc j u hu)
theorem BAt.drewN {w : World} {gx : Nat} {A : Option Addr} {c : Nat} {q : List Int} (h : BAt w gx A c q) (n : Nat) : BAt (w.drewN n) gx A c q :=
  ⟨⟨h.sl.rd.drewN n, h.sl.le, h.sl.max, h.sl.nil⟩, h.ty⟩
theorem BAt.from_ {w : World} {gx : Nat} {A : Option Addr} {c : Nat} {q : List Int} (h : BAt w gx A c q) (k : Nat) (kd : IntKind) (hk : k ≤ q.length) : ∃ A',
    (∀ w, (Instr.slice 23 (.slice A q.length c) (some (.int kd (k : Int))) none none).run Tryd.prog w = .ok (.slice A' (q.drop k).length (c - k)) w) ∧ BAt w gx A' (c - k) (q.drop k) := by
  refine ⟨if c = k then A else A.map (·.add (k * 1)), fun w => ?_, ⟨h.sl.rd.cut hk h.sl.le, by rw [List.length_drop]; have := h.sl.le; omega, by have := h.sl.max; omega, fun e => ?_⟩, fun ad e => ?_⟩
  · rw [run_slice_l (P := Tryd.prog) w 23 A q.length c (by rw [elem_u8]; exact Tryd.underlying23) kd (k : Int) (by omega) (by have := h.sl.le; omega), elem_u8]
    rw [run_sizeOf_u8]
    simp [sliced]
  · split at e
    · omega
    · have : A = none := by cases A with
        | none => rfl
        | some a => cases e
      have := h.sl.nil this
      omega
  · split at e
    · exact h.ty ad e
    · cases A with
      | none => cases e
      | some a =>
        injection e with e
        subst e
        simp only [block_of_add]
        exact h.ty a rfl
theorem BAt.both_ {w : World} {gx : Nat} {A : Option Addr} {c : Nat} {q : List Int} (h : BAt w gx A c q) (j k : Nat) (kd kd' : IntKind) (hj : j ≤ k) (hk : k ≤ q.length) : ∃ A',
    (∀ w, (Instr.slice 23 (.slice A q.length c) (some (.int kd (j : Int))) (some (.int kd' (k : Int))) none).run Tryd.prog w = .ok (.slice A' ((q.take k).drop j).length (c - j)) w) ∧ BAt w gx A' (c - j) ((q.take k).drop j) := by
  have hlen : (q.take k).length = k := by simp [hk]
  have hle := h.sl.le
  refine ⟨if c = j then A else A.map (·.add (j * 1)), fun w => ?_, ⟨(h.sl.rd.upto hk).cut (by omega) (by omega), by rw [List.length_drop, hlen]; omega, by have := h.sl.max; omega, fun e => ?_⟩, fun ad e => ?_⟩
  · rw [run_slice_lh (P := Tryd.prog) w 23 A q.length c (by rw [elem_u8]; exact Tryd.underlying23) kd kd' (j : Int) (k : Int) (by omega) (by omega) (by omega), elem_u8, run_sizeOf_u8]
    simp [sliced, Nat.min_eq_left hk]
  · split at e
    · omega
    · have : A = none := by cases A with
        | none => rfl
        | some a => cases e
      have := h.sl.nil this
      omega
  · split at e
    · exact h.ty ad e
    · cases A with
      | none => cases e
      | some a =>
        injection e with e
        subst e
        simp only [block_of_add]
        exact h.ty a rfl
/-- What stays in the loop. -/
structure RdC (w wr : World) (gx B0 : Nat) (A0 : Option Addr) (Q : List Int) (X : MV) (nA : Option Addr) (nc : Nat) (rA : Option Addr) (rc : Nat) (vA : Option Addr) (vc : Nat) : Prop where
  kr : Blk wr w.heap.size 28 zeroM
  kx : Blk wr gx 28 (mvC X nA nc rA rc vA vc)
  nm : Own wr B0 nA nc X.name
  rs : Own wr B0 rA rc X.reason
  vs : OwnU wr B0 vA vc X.vers
  bh : Reads wr gx 1 A0 Q.length (U8 Q)
  bel : Below w.heap.size w wr
  o2 : w.heap.size < gx
  o3 : gx < B0
  z : B0 ≤ wr.heap.size
section
variable {w wr w' : World} {gx B0 : Nat} {A0 : Option Addr} {Q : List Int} {X : MV} {nA : Option Addr} {nc : Nat} {rA : Option Addr} {rc : Nat} {vA : Option Addr} {vc : Nat}
theorem RdC.below (h : RdC w wr gx B0 A0 Q X nA nc rA rc vA vc) (hb : Below wr.heap.size wr w') : RdC w w' gx B0 A0 Q X nA nc rA rc vA vc :=
  ⟨h.kr.below hb h.kr.lt, h.kx.below hb h.kx.lt, h.nm.below hb, h.rs.below hb, OwnV.below h.vs hb, h.bh.below (hb.mono (Nat.le_of_lt h.kx.lt)), h.bel.trans (hb.mono h.bel.size), h.o2, h.o3, Nat.le_trans h.z hb.size⟩
theorem RdC.drewN (h : RdC w wr gx B0 A0 Q X nA nc rA rc vA vc) (n : Nat) : RdC w (wr.drewN n) gx B0 A0 Q X nA nc rA rc vA vc :=
  ⟨h.kr, h.kx, h.nm, h.rs, h.vs, h.bh, Below.drewNW h.bel n, h.o2, h.o3, h.z⟩
theorem RdC.grow {g : Nat} (h : RdC w wr gx B0 A0 Q X nA nc rA rc vA vc) (hg : wr.grownBy w' (some g)) (h1 : gx < g) (h8 : ∀ k cur, Blk wr k 5 cur → g ≠ k) (h64 : ∀ k cur, Blk wr k 22 cur → g ≠ k) : RdC w w' gx B0 A0 Q X nA nc rA rc vA vc :=
  have h2 := h.o2
  have hk := h.kx.lt
  ⟨h.kr.grown hg (fun e => by injection e with e; omega), h.kx.grown hg (fun e => by injection e with e; omega), h.nm.grown hg (fun k cur hb e => by injection e with e; exact h8 k cur hb e), h.rs.grown hg (fun k cur hb e => by injection e with e; exact h8 k cur hb e), OwnV.grown h.vs hg (fun k cur hb e => by injection e with e; exact h64 k cur hb e), h.bh.grown hg (by omega) (fun k e => by injection e with e; omega), below_gsW h.bel hg (by omega) h.bel.size, h.o2, h.o3, Nat.le_trans h.z hg.size⟩
theorem RdC.app {row : Option Nat} {vA' : Option Addr} {vc' : Nat} {vs' : List Int} (h : RdC w wr gx B0 A0 Q X nA nc rA rc vA vc) (hg : wr.grownBy w' row) (hrow : ∀ k, row = some k → B0 ≤ k) (h8 : ∀ k cur, Blk wr k 5 cur → row ≠ some k)
    (hv : OwnU w' B0 vA' vc' vs') : RdC w (w'.setCell ⟨gx, 15, none⟩ (.slice vA' vs'.length vc')) gx B0 A0 Q { X with vers := vs' } nA nc rA rc vA' vc' := by
  have h2 := h.o2
  have h3 := h.o3
  have hk := h.kx.lt
  have hne : ∀ g, g < B0 → some g ≠ row := fun g hlt e => by have := hrow g e.symm; omega
  have kx := h.kx.grown hg (hne gx h3)
  have gs : w'.grownBy (w'.setCell ⟨gx, 15, none⟩ (.slice vA' vs'.length vc')) (some gx) := gsetW
  refine ⟨(h.kr.grown hg (hne _ (by omega))).grown gs (fun e => by injection e with e; omega), kx.set_ 15 _, (h.nm.grown hg h8).grown gs (fun k cur hb e => by injection e with e; exact Blk.ne_ kx hb (by decide) e), (h.rs.grown hg h8).grown gs (fun k cur hb e => by injection e with e; exact Blk.ne_ kx hb (by decide) e), OwnV.grown hv gs (fun k cur hb e => by injection e with e; exact Blk.ne_ kx hb (by decide) e),
    (h.bh.grown hg (by omega) (fun k e => by have := hrow k e; omega)).grown gs (by have := hg.size; omega) (fun k e => by injection e with e; omega), below_gsW ⟨hg.os.trans h.bel.os, hg.tape.trans h.bel.tape, hg.output.trans h.bel.output, Nat.le_trans h.bel.size hg.size, fun i hi => (hg.block i (by have := h.bel.size; omega) (hne i (by omega))).trans (h.bel.block i hi)⟩ gs (by omega) (Nat.le_trans h.bel.size hg.size), h.o2, h.o3, Nat.le_trans h.z (Nat.le_trans hg.size gs.size)⟩
theorem RdC.put {X' : MV} {nA' : Option Addr} {nc' : Nat} {rA' : Option Addr} {rc' : Nat} {vA' : Option Addr} {vc' : Nat} (h : RdC w wr gx B0 A0 Q X nA nc rA rc vA vc) (hg : wr.grownBy w' (some gx)) (kx : Blk w' gx 28 (mvC X' nA' nc' rA' rc' vA' vc'))
    (hn : Own wr B0 nA' nc' X'.name) (hr : Own wr B0 rA' rc' X'.reason) (hv : OwnU wr B0 vA' vc' X'.vers) : RdC w w' gx B0 A0 Q X' nA' nc' rA' rc' vA' vc' :=
  have h2 := h.o2
  have hk := h.kx.lt
  ⟨h.kr.grown hg (fun e => by injection e with e; omega), kx, hn.grown hg (fun k cur hb e => by injection e with e; exact Blk.ne_ h.kx hb (by decide) e), hr.grown hg (fun k cur hb e => by injection e with e; exact Blk.ne_ h.kx hb (by decide) e), OwnV.grown hv hg (fun k cur hb e => by injection e with e; exact Blk.ne_ h.kx hb (by decide) e), h.bh.grown hg (by omega) (fun k e => by injection e with e; omega), below_gsW h.bel hg (by omega) h.bel.size, h.o2, h.o3, Nat.le_trans h.z hg.size⟩
end
/-- Where Read's loop over the letters stands. -/
structure RdL (w wr : World) (gx gi B0 : Nat) (s : ByteArray) (kind : Int) (P0 : List Int) (A0 : Option Addr) (Q : List Int) (X : MV) (q : List Int) (nA : Option Addr) (nc : Nat) (rA : Option Addr) (rc : Nat) (vA : Option Addr) (vc : Nat) (A : Option Addr) (c : Nat) (pos : Nat) : Prop where
  core : RdC w wr gx B0 A0 Q X nA nc rA rc vA vc
  run : rdR s (mv0 kind) P0 pos = some (X, q)
  b : BAt wr gx A c q
  it : It wr gi s pos
  le : pos ≤ s.size
  by_ : Bytes q ∧ Bytes X.name ∧ Bytes X.reason
  len : q.length ≤ 100000 ∧ X.name.length ≤ 100000 ∧ X.reason.length ≤ 100000 ∧ X.vers.length ≤ 8
/-- Where the loop over the versions stands. -/
structure InL (w wr : World) (gx gi B0 : Nat) (s : ByteArray) (A0 : Option Addr) (Q : List Int) (X : MV) (nA : Option Addr) (nc : Nat) (rA : Option Addr) (rc : Nat) (q1 : List Int) (N pos j : Nat) (rest xs : List Int) (A1 : Option Addr) (c1 : Nat) (vA1 : Option Addr) (vc1 : Nat) : Prop where
  pn : pnums N q1 = match pnums (N - j) rest with | none => none | some (l, r) => some (xs ++ l, r)
  xl : xs.length = j
  core : RdC w wr gx B0 A0 Q { X with vers := xs } nA nc rA rc vA1 vc1
  b : BAt wr gx A1 c1 rest
  it : It wr gi s (pos + 1)
  by_ : Bytes rest ∧ rest.length ≤ 100000
def lettersK : List Nat := [105, 97, 116, 112, 111, 115, 101, 103, 98, 99, 114, 110, 118, 108]
theorem shape_lettersK {k : Int} (hk : knW k = true) : ∀ (j : Nat) (h : j < (shapeW k).size), ((shapeW k)[j]'h).toNat ∈ lettersK := by
  have hin : k ∈ kindsW := by simpa [knW] using hk
  have key : ∀ s ∈ ([⟨#[105, 97, 116, 112, 111, 115, 103]⟩, ⟨#[105, 98, 115]⟩, ⟨#[105, 99, 114]⟩, ⟨#[105, 116]⟩, ⟨#[105]⟩, ⟨#[116]⟩, ⟨#[]⟩, ⟨#[110]⟩, ⟨#[105, 116, 112, 115, 101]⟩, ⟨#[108, 110]⟩, ⟨#[118, 110]⟩] : List ByteArray), ∀ (j : Nat) (h : j < s.size), (s[j]'h).toNat ∈ lettersK := by
    intro s hs j h
    simp only [List.mem_cons, List.not_mem_nil, or_false] at hs
    rcases hs with rfl | rfl | rfl | rfl | rfl | rfl | rfl | rfl | rfl | rfl | rfl
    all_goals (revert j; decide +kernel)
  refine key _ ?_
  simp only [kindsW, List.mem_cons, List.not_mem_nil, or_false] at hin
  rcases hin with rfl | rfl | rfl | rfl | rfl | rfl | rfl | rfl | rfl | rfl | rfl | rfl | rfl | rfl | rfl | rfl | rfl <;> simp [shapeW]
theorem shape_108 (k : Int) : ∀ j, chW (shapeW k) j = 108 → j = 0 := by
  have key : ∀ s ∈ ([⟨#[105, 97, 116, 112, 111, 115, 103]⟩, ⟨#[105, 98, 115]⟩, ⟨#[105, 99, 114]⟩, ⟨#[105, 116]⟩, ⟨#[105]⟩, ⟨#[116]⟩, ⟨#[]⟩, ⟨#[110]⟩, ⟨#[105, 116, 112, 115, 101]⟩, ⟨#[108, 110]⟩, ⟨#[118, 110]⟩, ⟨#[45]⟩] : List ByteArray), ∀ (j : Nat) (h : j < s.size), (s[j]'h).toNat = 108 → j = 0 := by
    intro s hs j h
    simp only [List.mem_cons, List.not_mem_nil, or_false] at hs
    rcases hs with rfl | rfl | rfl | rfl | rfl | rfl | rfl | rfl | rfl | rfl | rfl | rfl
    all_goals (revert j; decide +kernel)
  have hin : shapeW k ∈ ([⟨#[105, 97, 116, 112, 111, 115, 103]⟩, ⟨#[105, 98, 115]⟩, ⟨#[105, 99, 114]⟩, ⟨#[105, 116]⟩, ⟨#[105]⟩, ⟨#[116]⟩, ⟨#[]⟩, ⟨#[110]⟩, ⟨#[105, 116, 112, 115, 101]⟩, ⟨#[108, 110]⟩, ⟨#[118, 110]⟩, ⟨#[45]⟩] : List ByteArray) := by
    unfold shapeW
    (repeat' split) <;> simp
  intro j h
  unfold chW at h
  split at h
  · rename_i hj
    exact key _ hin j hj h
  · cases h
theorem pnum_by {q q1 : List Int} {n : Int} (hb : Bytes q) {L : Nat} (hl : q.length ≤ L) (h : pnum q = some (n, q1)) : Bytes q1 ∧ q1.length ≤ L := by
  obtain ⟨_, _, rfl⟩ := pnum_some h
  exact ⟨hb.drop _, by rw [List.length_drop]; omega⟩
theorem ptext_ok {q t q1 : List Int} (h : ptext 1048576 q = some (t, q1)) : vtkE q 1048576 = 0 ∧ vtkT q = t ∧ vtkR q = q1 := by
  unfold ptext at h
  split at h
  · cases h
  · rename_i n r hp
    obtain ⟨h0, hn, hr⟩ := pnum_some hp
    split at h
    · rename_i hc
      injection h with h
      injection h with h1 h2
      unfold vtkE vtkT vtkR
      rw [if_neg h0, hn, hr, if_neg (by omega), if_neg (by omega)]
      exact ⟨rfl, h1, h2⟩
    · cases h
theorem ptext_no {q : List Int} (h : ptext 1048576 q = none) : vtkE q 1048576 = 2 ∨ vtkE q 1048576 = 3 := by
  unfold ptext at h
  split at h
  · rename_i hp
    unfold vtkE
    rw [if_pos (pnum_none hp)]
    exact .inl rfl
  · rename_i n r hp
    obtain ⟨h0, hn, hr⟩ := pnum_some hp
    split at h
    · cases h
    · rename_i hc
      unfold vtkE
      rw [if_neg h0, hn, hr]
      split
      · exact .inr rfl
      · rw [if_pos (by omega)]
        exact .inl rfl
theorem ptext_by {q t q1 : List Int} (hb : Bytes q) {L : Nat} (hl : q.length ≤ L) (h : ptext 1048576 q = some (t, q1)) : (Bytes q1 ∧ q1.length ≤ L) ∧ Bytes t ∧ t.length ≤ L := by
  obtain ⟨_, rfl, rfl⟩ := ptext_ok h
  unfold vtkR vtkT
  exact ⟨⟨(hb.drop _).drop _, by simp only [List.length_drop]; omega⟩, (hb.drop _).take _, by simp only [List.length_take, List.length_drop]; omega⟩
theorem plist_none1 {q q1 : List Int} {n : Int} (h : pnum q = some (n, q1)) (hn : ¬ n ≤ 8) : plist q = none := by
  unfold plist
  rw [h]
  simp only
  rw [if_neg hn]
theorem plist_eq {q q1 : List Int} {N : Nat} (h : pnum q = some ((N : Int), q1)) (hn : N ≤ 8) : plist q = pnums N q1 := by
  unfold plist
  rw [h]
  simp only
  rw [if_pos (by omega), Int.toNat_natCast]
theorem pnums_stepL {k : Nat} {rest r1 xs : List Int} {a : Int} (h : pnum rest = some (a, r1)) : (match pnums (k + 1) rest with | none => none | some (l, r) => some (xs ++ l, r)) = (match pnums k r1 with | none => none | some (l, r) => some ((xs ++ [a]) ++ l, r) : Option (List Int × List Int)) := by
  have e : pnums (k + 1) rest = match pnums k r1 with | none => none | some (l, r) => some (a :: l, r) := by
    show (match pnum rest with | none => none | some (a, q) => match pnums k q with | none => none | some (l, r) => some (a :: l, r)) = _
    rw [h]
  rw [e]
  cases hk : pnums k r1 with
  | none => simp
  | some r => simp
theorem rdR_none {s : ByteArray} {m : MV} {p : List Int} : ∀ {k j : Nat}, rdR s m p k = none → k ≤ j → rdR s m p j = none
  | k, j, h, hj => by
    obtain ⟨d, rfl⟩ : ∃ d, j = k + d := ⟨j - k, by omega⟩
    clear hj
    induction d with
    | zero => exact h
    | succ d ih =>
      show bnd (rdR s m p (k + d)) _ = none
      rw [ih]
      rfl
theorem parseR_none {k : Int} {p : List Int} {j : Nat} (h : rdR (shapeW k) (mv0 k) p j = none) (hj : j ≤ (shapeW k).size) : parseR k p = none := by
  unfold parseR
  rw [rdR_none h hj]
set_option maxRecDepth 100000 in
set_option maxHeartbeats 6400000 in
theorem refReadW_any (A : Option Addr) (c : Nat) (p : List Int) (w : World) (h : Sl w A c p) (hb : Bytes p) (hl : p.length ≤ 100000) :
    Calls Tryd.prog 18 #[.slice A p.length c] w fun r w' => RReadTo w w' p r := by
  obtain ⟨W, hW⟩ : ∃ W, W = w.alloc (.cells #[.int .u64 0, .int .u64 0, .int .u64 0, .slice none 0 0, .int .u8 0, .int .u8 0, .int .u64 0, .int .u64 0, .int .u64 0, .int .u64 0, .bool false, .int .u64 0, .slice none 0 0, .int .u64 0, .int .u64 0, .slice none 0 0] 28) := ⟨_, rfl⟩
  have bw : Below w.heap.size w W := by rw [hW]; exact (Below.refl _ _).alloc (Nat.le_refl _) _
  have KR := Lib.hid (show Blk W w.heap.size 28 zeroM by rw [hW]; exact Blk.new _ _ _)
  have BW := Lib.hid bw
  have HSL := Lib.hid (h.below bw)
  have HB := Lib.hid hb
  obtain ⟨P9, hP9⟩ : ∃ P9 : World → Ending → Prop, P9 = fun w' r => RReadTo w w' p r := ⟨_, rfl⟩
  have HP := Lib.hid hP9
  rw [show (fun r w' => RReadTo w w' p r) = fun r w' => P9 w' r by rw [hP9]]
  have HW := Lib.hid hW
  clear h hb bw hW hP9
  cases hp : pnum p with
  | none =>
    have HE := Lib.hid (show readR p = .error 2 by unfold readR; rw [hp])
    have CT := Lib.hid (refTake_no A c p W HSL.out.rd HB.out HSL.out.le (by omega) (pnum_none hp))
    clear hp
    go_enter Tryd.func18, Tryd.ntmps18
    go_wp2_with fail
    rw [← HW.out]
    refine CT.out.mono ?_
    rintro e w2 ⟨rfl, b2⟩
    have kr := KR.out.below b2 KR.out.lt
    have bl := BW.out.trans (b2.mono BW.out.size)
    clear b2 CT
    go_wp2_with (refine wpList_store_row rfl 28 (.tmp 2) (.tmp 30) rfl w.heap.size zeroM rfl rfl 28 _ kr info_rmsg rfl zero_one ?_)
    refine bodyPost_ret (results_row_tmp2W rfl _ _ w.heap.size 28 _ (0, 0) _ rfl (Blk.setRowPW kr) Tryd.underlying28 rfl (by kernel_rfl)) rfl ?_
    show P9 _ _
    rw [HP.out]
    exact rread_no HE.out bl kr
  | some r0 =>
    obtain ⟨kind, rest⟩ := r0
    have hqb := pnum_by HB.out hl hp
    have HPN := Lib.hid hp
    obtain ⟨h0, hn, hq⟩ := pnum_some hp
    have CT := refTake_yes A c p W HSL.out.rd HB.out HSL.out.le (by omega) h0
    rw [hn, hq] at CT
    have CT2 := Lib.hid CT
    have HQ := Lib.hid hqb
    obtain ⟨s, hs⟩ : ∃ s, s = shapeW kind := ⟨_, rfl⟩
    have CS := Lib.hid (fun W' => refShape_any kind W')
    rw [← hs] at CS
    obtain ⟨kn, hkn⟩ : ∃ kn, kn = knW kind := ⟨_, rfl⟩
    have HKN := Lib.hid hkn
    have HSS := Lib.hid hs
    clear CT h0 hn hq hp hqb hs hkn
    go_enter Tryd.func18, Tryd.ntmps18
    go_wp2_with fail
    rw [← HW.out]
    refine CT2.out.mono ?_
    rintro e w1 ⟨A2, c2, rfl, o2, b2⟩
    have KR1 := Lib.hid (KR.out.below b2 KR.out.lt)
    have BW1 := Lib.hid (BW.out.trans (b2.mono BW.out.size))
    have O1 := Lib.hid o2
    have hz1 : w.heap.size < w1.heap.size := KR1.out.lt
    have HZ1 := Lib.hid hz1
    clear b2 o2 CT2 KR BW HW hz1
    go_wp2_with fail
    refine (CS.out w1).mono ?_
    rintro e w0 ⟨rfl, hh⟩
    subst hh
    clear CS
    cases kn with
    | false =>
      have hs45 : s = ⟨#[45]⟩ := by rw [HSS.out]; exact shape_none HKN.out.symm
      have hnl : s.toList = [45] := by rw [hs45, ByteArray.toList_eq]
      have HE := Lib.hid (show readR p = .error 4 by unfold readR; rw [HPN.out]; simp only; rw [if_neg (by rw [← HKN.out]; decide)])
      have kr := KR1.out
      have bl := BW1.out
      clear hs45
      go_wp2_with (refine wpList_store_row rfl 28 (.tmp 2) (.tmp 36) rfl w.heap.size zeroM rfl rfl 28 _ kr info_rmsg rfl zero_one ?_)
      refine bodyPost_ret (results_row_tmp2W rfl _ _ w.heap.size 28 _ (0, 0) _ rfl (Blk.setRowPW kr) Tryd.underlying28 rfl (by kernel_rfl)) rfl ?_
      show P9 _ _
      rw [HP.out]
      exact rread_no HE.out bl kr
    | true =>
      have hne : s ≠ ⟨#[45]⟩ := by rw [HSS.out]; exact shape_some HKN.out.symm
      have hnl : ¬ s.toList = [45] := by
        intro e
        apply hne
        rw [ByteArray.toList_eq] at e
        obtain ⟨d⟩ := s
        congr 1
        exact Array.toList_inj.1 e
      have hnb : (s.toList == [45]) = false := by simpa using hnl
      clear hne
      by_cases hsh : rest.length < 2
      · have HE := Lib.hid (show readR p = .error 2 by
          unfold readR
          rw [HPN.out]
          simp only
          rw [if_pos HKN.out.symm]
          rcases rest with _ | ⟨a, _ | ⟨b, r⟩⟩
          · rfl
          · rfl
          · simp at hsh; omega)
        have kr := KR1.out
        have bl := BW1.out
        obtain ⟨L, hL⟩ : ∃ L, L = rest.length := ⟨_, rfl⟩
        rw [← hL] at hsh ⊢
        have hd1 : decide ((L : Int) < 2) = true := by simp; omega
        have hd2 : decide (L < 2) = true := by simp; omega
        clear hL
        go_wp2_with (refine wpList_store_row rfl 28 (.tmp 2) (.tmp 40) rfl w.heap.size zeroM rfl rfl 28 _ kr info_rmsg rfl zero_one ?_)
        refine bodyPost_ret (results_row_tmp2W rfl _ _ w.heap.size 28 _ (0, 0) _ rfl (Blk.setRowPW kr) Tryd.underlying28 rfl (by kernel_rfl)) rfl ?_
        show P9 _ _
        rw [HP.out]
        exact rread_no HE.out bl kr
      · obtain ⟨a, b, r, rfl⟩ : ∃ a b r, rest = a :: b :: r := by
          rcases rest with _ | ⟨a, _ | ⟨b, r⟩⟩
          · simp at hsh
          · simp at hsh
          · exact ⟨a, b, r, rfl⟩
        obtain ⟨g, rfl, _, hglt⟩ := O1.out.form (by simp)
        have k0 := (Rd.of_own O1.out).cell (j := 0) (x := a) rfl
        have k1 := (Rd.of_own O1.out).cell (j := 1) (x := b) rfl
        simp only [Nat.zero_add] at k0 k1
        have ha := HQ.out.1 a (by simp)
        have hbb := HQ.out.1 b (by simp)
        obtain ⟨N, hN⟩ : ∃ N : Nat, 256 * a + b = N := ⟨(256 * a + b).toNat, by omega⟩
        have hNs : N < 65536 := by omega
        obtain ⟨L, hL⟩ : ∃ L, L = (a :: b :: r).length := ⟨_, rfl⟩
        have hL2 : L = r.length + 2 := by rw [hL]; rfl
        have hLs : L ≤ 100000 := by rw [hL]; exact HQ.out.2
        have HRR := Lib.hid (show readR p = if r.length < N then .error 2 else match parseR kind (r.take N) with | none => .error 4 | some m => .ok (m, r.drop N) by
          unfold readR
          rw [HPN.out]
          simp only
          rw [if_pos HKN.out.symm, hN, Int.toNat_natCast]
          rfl)
        have w1a : IntKind.i64.wrap (256 * a) = 256 * a := by rw [IntKind.wrap_i64]; omega
        have w2a : IntKind.i64.wrap (256 * a + b) = (N : Int) := by rw [IntKind.wrap_i64]; omega
        have w3a : IntKind.i64.wrap (2 + (N : Int)) = 2 + (N : Int) := by rw [IntKind.wrap_i64]; omega
        have i0 : 0 < L := by omega
        have i1 : 1 < L := by omega
        have i2 : (1 : Int) < (L : Int) := by omega
        have HNN := Lib.hid hN
        have HLL := Lib.hid hL
        by_cases hlt : r.length < N
        · have HE := Lib.hid (show readR p = .error 2 by rw [HRR.out, if_pos hlt])
          have kr := KR1.out
          have bl := BW1.out
          rw [← hL]
          have hd1 : decide ((L : Int) < 2) = false := by simp; omega
          have hd2 : decide (L < 2) = false := by simp; omega
          have hd3 : decide ((L : Int) < ((2 + N : Nat) : Int)) = true := by simp only [decide_eq_true_eq]; omega
          have hd5 : decide ((L : Int) < 2 + (N : Int)) = true := by simp only [decide_eq_true_eq]; omega
          have hd4 : decide (L < 2 + N) = true := by simp only [decide_eq_true_eq]; omega
          clear hL hN hsh hlt hL2 hLs
          go_wp2_with fail
          go_quiet (fail)
          obtain ⟨w9, hw9⟩ : ∃ w9, w9 = w1.drewN nq := ⟨_, rfl⟩
          have kr : Blk w9 w.heap.size 28 zeroM := by rw [hw9]; exact kr
          have bl : Below w.heap.size w w9 := by rw [hw9]; exact Below.drewNW bl _
          rw [← hw9]
          clear hw9 k0 k1
          go_wp2_with (refine wpList_store_row rfl 28 (.tmp 2) (.tmp 56) rfl w.heap.size zeroM rfl rfl 28 _ kr info_rmsg rfl zero_one ?_)
          refine bodyPost_ret (results_row_tmp2W rfl _ _ w.heap.size 28 _ (0, 0) _ rfl (Blk.setRowPW kr) Tryd.underlying28 rfl (by kernel_rfl)) rfl ?_
          show P9 _ _
          rw [HP.out]
          exact rread_no HE.out bl kr
        · have hd1 : decide ((L : Int) < 2) = false := by simp; omega
          have hd2 : decide (L < 2) = false := by simp; omega
          have hd3 : decide ((L : Int) < ((2 + N : Nat) : Int)) = false := by simp only [decide_eq_false_iff_not]; omega
          have hd5 : decide ((L : Int) < 2 + (N : Int)) = false := by simp only [decide_eq_false_iff_not]; omega
          have hd4 : decide (L < 2 + N) = false := by simp only [decide_eq_false_iff_not]; omega
          have bo : BAt w1 w1.heap.size (some ⟨g, 0, none⟩) c2 (a :: b :: r) := BAt.of_own O1.out
          obtain ⟨A6, u1, u2⟩ := bo.both_ 2 (2 + N) .i64 .i64 (by omega) (by rw [← hL]; omega)
          obtain ⟨A7, v1, v2⟩ := bo.from_ (2 + N) .i64 (by rw [← hL]; omega)
          have e1 : ((a :: b :: r).take (2 + N)).drop 2 = r.take N := by rw [show 2 + N = N + 1 + 1 by omega]; rfl
          have e2 : (a :: b :: r).drop (2 + N) = r.drop N := by rw [show 2 + N = N + 1 + 1 by omega]; rfl
          rw [e1, ← hL] at u1
          rw [e1] at u2
          rw [e2, ← hL] at v1
          rw [e2] at v2
          rw [show ((2 : Nat) : Int) = 2 from rfl, show ((2 + N : Nat) : Int) = 2 + (N : Int) by omega] at u1
          rw [show ((2 + N : Nat) : Int) = 2 + (N : Int) by omega] at v1
          have HRR2 := Lib.hid (show readR p = match parseR kind (r.take N) with | none => .error 4 | some m => .ok (m, r.drop N) by rw [HRR.out, if_neg hlt])
          have hqb1 : Bytes (r.take N) := fun x hx => HQ.out.1 x (List.mem_cons_of_mem _ (List.mem_cons_of_mem _ (List.mem_of_mem_take hx)))
          have hql1 : (r.take N).length ≤ 100000 := by rw [List.length_take]; omega
          have hQl1 : (r.drop N).length ≤ 100000 := by rw [List.length_drop]; omega
          obtain ⟨q0, hq0⟩ : ∃ q0, q0 = r.take N := ⟨_, rfl⟩
          obtain ⟨Q, hQ⟩ : ∃ Q, Q = r.drop N := ⟨_, rfl⟩
          rw [← hq0] at u1 u2 HRR2 hqb1 hql1
          rw [← hQ] at v1 v2 HRR2 hQl1
          have HB6 := Lib.hid u2
          have HB7 := Lib.hid v2
          have HQ0 := Lib.hid (And.intro hqb1 hql1)
          have HQQ := Lib.hid hQl1
          have HFAIL := Lib.hid (show ∀ j, j ≤ s.size → rdR s (mv0 kind) q0 j = none → readR p = .error 4 from fun j hj hn => by
            rw [HSS.out] at hj hn
            rw [HRR2.out, parseR_none hn hj])
          rw [← hL]
          clear hL hN hLs hL2 hq0 hQ e1 e2 bo u2 v2 hsh hlt hqb1 hql1 hQl1 HRR HNN HLL
          go_wp2_with fail
          go_quiet (fail)
          go_wp2_with fail
          go_quiet (fail)
          have HNZ := Lib.hid (show ∀ n, Blk ((w1.drewN n).alloc (.cells zeroM 28)) w1.heap.size 28 zeroM from fun n => Blk.new (w1.drewN n) _ _)
          obtain ⟨MZ, hMZ⟩ : ∃ MZ, MZ = mvC (mv0 kind) none 0 none 0 none 0 := ⟨_, rfl⟩
          have HMZ := Lib.hid hMZ
          have HMZ1 := Lib.hid (show MZ.all (·.oneCell') = true by rw [hMZ]; exact mvC_one _ _ _ _ _ _ _)
          have HMZ2 := Lib.hid (show (Tryd.prog.info? 28).map (·.size) = some MZ.size by rw [hMZ]; exact info_rmsg)
          have hzM : Value.agg MZ = .agg #[.int .u64 kind, .int .u64 0, .int .u64 0, .slice none 0 0, .int .u8 0, .int .u8 0, .int .u64 0, .int .u64 0, .int .u64 0, .int .u64 0, .bool false, .int .u64 0, .slice none 0 0, .int .u64 0, .int .u64 0, .slice none 0 0] := by rw [hMZ]; rfl
          have HZM := Lib.hid hzM.symm
          have I0 := Lib.hid (show ∀ n, RdL w ((((w1.drewN n).alloc (.cells zeroM 28)).setRow w1.heap.size MZ).iter s 0) w1.heap.size (w1.heap.size + 1) (w1.heap.size + 2) s kind q0 A7 Q (mv0 kind) q0 none 0 none 0 none 0 A6 (c2 - 2) 0 from fun n => by
            have bd : Below w1.heap.size w1 (w1.drewN n) := Below.drewNW (Below.refl _ _) n
            have ba : Below w1.heap.size w1 ((w1.drewN n).alloc (.cells zeroM 28)) := bd.trans ((Below.refl (w1.drewN n).heap.size (w1.drewN n)).alloc (Nat.le_refl _) _)
            have bs : Below w1.heap.size w1 (((w1.drewN n).alloc (.cells zeroM 28)).setRow w1.heap.size MZ) := below_gsW ba grow_rowW (Nat.le_refl _) ba.size
            have hsz : (((w1.drewN n).alloc (.cells zeroM 28)).setRow w1.heap.size MZ).heap.size = w1.heap.size + 1 := by simp
            have bi := iter_below (((w1.drewN n).alloc (.cells zeroM 28)).setRow w1.heap.size MZ) s 0
            have bt := bs.trans (bi.mono (by rw [hsz]; omega))
            have kx : Blk (((w1.drewN n).alloc (.cells zeroM 28)).setRow w1.heap.size MZ) w1.heap.size 28 MZ := Blk.setRowPW (HNZ.out n)
            rw [HMZ.out] at kx
            have it := It.new (((w1.drewN n).alloc (.cells zeroM 28)).setRow w1.heap.size MZ) s
            rw [hsz] at it
            refine ⟨⟨KR1.out.below bt HZ1.out, by rw [HMZ.out] at bi ⊢; exact kx.below bi kx.lt, Own.nil _ _, Own.nil _ _, OwnV.nil _ _ _ _, Reads.below (show Reads w1 w1.heap.size 1 A7 Q.length (U8 Q) from HB7.out.sl.rd) bt, BW1.out.trans (bt.mono BW1.out.size), HZ1.out, by omega, by simp [World.iter]⟩, rfl, HB6.out.below bt, it, Nat.zero_le _, ⟨HQ0.out.1, Bytes.nil, Bytes.nil⟩, ⟨HQ0.out.2, Nat.zero_le _, Nat.zero_le _, Nat.zero_le _⟩⟩)
          clear hMZ hzM k0 k1 w1a w2a w3a u1 v1 ha hbb hd1 hd2 hd3 hd4 hd5 i0 i1 i2 hnb hnl hNs
          go_wp2_with (refine wpList_store_row rfl 28 (.tmp 12) (.tmp 66) rfl w1.heap.size MZ rfl HZM.out 28 _ (HNZ.out _) HMZ2.out (by rw [HMZ.out]; rfl) HMZ1.out ?_)
          obtain ⟨gx, hgx⟩ : ∃ g, g = w1.heap.size := ⟨_, rfl⟩
          rw [← hgx] at I0 ⊢
          obtain ⟨gi, hgi⟩ : ∃ g, g = gx + 1 := ⟨_, rfl⟩
          obtain ⟨B0, hB0⟩ : ∃ B, B = gx + 2 := ⟨_, rfl⟩
          rw [← hgi, ← hB0] at I0
          rw [← hgi]
          have HGI := Lib.hid (show gx < gi ∧ gi < B0 by omega)
          obtain ⟨c7, hc7⟩ : ∃ c7, c7 = c2 - (2 + N) := ⟨_, rfl⟩
          rw [← hc7]
          have HL := Lib.hid (show ∀ (j : Nat) (h : j < s.size), (s[j]'h).toNat ∈ lettersK by rw [HSS.out]; exact shape_lettersK HKN.out.symm)
          clear hgx hgi hB0 hc7 HNZ HMZ HMZ1 HMZ2 HZM KR1 BW1 O1 HZ1 HB6 HB7 HQ0 HQ HPN HSL HB
          go_loopw [10] (fun bv wr => ∃ (pos : Nat) (X : MV) (q : List Int) (nA : Option Addr) (nc : Nat) (rA : Option Addr) (rc : Nat) (vA : Option Addr) (vc : Nat) (A : Option Addr) (c : Nat), bv = .slice A q.length c ∧ Hid (RdL w wr gx gi B0 s kind q0 A7 Q X q nA nc rA rc vA vc A c pos)) (fun _ wr => s.size - wr.iterPos gi)
          case atStart => exact ⟨0, mv0 kind, q0, none, 0, none, 0, none, 0, A6, c2 - 2, rfl, Lib.hid (I0.out _)⟩
          case round =>
            obtain ⟨pos, X, q, nA, nc, rA, rc, vA, vc, A, c, rfl, HI⟩ := hrel
            rename World => wr
            by_cases hlt : pos < s.size
            · have hin := HL.out pos hlt
              obtain ⟨w1, hw1⟩ : ∃ w1, w1 = itSet wr gi s (pos + 1) := ⟨_, rfl⟩
              obtain ⟨ch, hch⟩ : ∃ ch, ch = (s[pos]'hlt).toNat := ⟨_, rfl⟩
              have ha : (s[pos]'hlt).toNat < 128 := by
                have : ∀ c ∈ lettersK, c < 128 := by decide
                exact this _ hin
              have hnx : ∀ ty, (Instr.next (.pointer (some ⟨gi, 0, none⟩)) true ty).run Tryd.prog wr = .ok (.tuple #[.bool true, .int .i64 pos, .int .i32 ch]) w1 := fun ty => by
                rw [hch, hw1]
                exact run_next_it wr gi s pos ty HI.out.it hlt ha
              have G1 : wr.grownBy w1 (some gi) := by rw [hw1]; exact itSet_grown wr gi s (pos + 1)
              have C1 := Lib.hid (HI.out.core.grow G1 HGI.out.1 (fun k cur hb => HI.out.it.ne hb) (fun k cur hb => HI.out.it.ne hb))
              have I1 := Lib.hid (show It w1 gi s (pos + 1) by rw [hw1]; exact itSet_it HI.out.it _)
              have B1 := Lib.hid (HI.out.b.grown G1 (fun g e => by injection e with e; have := HGI.out; omega) (fun k cur hb e => by injection e with e; exact HI.out.it.ne hb e))
              have HM0 := Lib.hid (iterPos_it HI.out.it)
              have HC := Lib.hid (show chW s pos = ch by unfold chW; rw [dif_pos hlt, hch])
              have HS := Lib.hid (show rdR s (mv0 kind) q0 (pos + 1) = rdC ch X q by
                show bnd (rdR s (mv0 kind) q0 pos) (rdC (chW s pos)) = _
                rw [HI.out.run, HC.out]
                rfl)
              have HRUN := Lib.hid HI.out.run
              have HBY := Lib.hid HI.out.by_
              have HLN := Lib.hid HI.out.len
              have HQ := Lib.hid (And.intro HI.out.by_.1 HI.out.len.1)
              rw [← hch] at hin
              clear hch hw1 ha HI I0 G1
              simp only [lettersK, List.mem_cons, List.not_mem_nil, or_false] at hin
              rcases hin with rfl | rfl | rfl | rfl | rfl | rfl | rfl | rfl | rfl | rfl | rfl | rfl | rfl | rfl
              · as_aux_lemma =>
                  rw [show ((105 : Nat) : Int) = 105 from rfl] at hnx
                  cases hp : pnum q with
                  | none =>
                    have HE := Lib.hid (HFAIL.out (pos + 1) hlt (by rw [HS.out]; show (pnum q).map _ = _; rw [hp]; rfl))
                    have CT := Lib.hid (refTake_no A c q w1 B1.out.sl.rd HQ.out.1 B1.out.sl.le (by have := HQ.out.2; omega) (pnum_none hp))
                    clear hp
                    go_wp2_with fail
                    refine CT.out.mono ?_
                    rintro e w2 ⟨rfl, b2⟩
                    have C2 := Lib.hid (C1.out.below b2)
                    clear b2 CT
                    go_wp2_with (refine wpList_store_row rfl 28 (.tmp 2) (.tmp 121) rfl w.heap.size zeroM rfl rfl 28 _ C2.out.kr info_rmsg rfl zero_one ?_)
                    refine bodyPost_ret (results_row_tmp2W rfl _ _ w.heap.size 28 _ (0, 0) _ rfl (Blk.setRowPW C2.out.kr) Tryd.underlying28 rfl (by kernel_rfl)) rfl ?_
                    show P9 _ _
                    rw [HP.out]
                    exact rread_no HE.out C2.out.bel C2.out.kr
                  | some r =>
                    obtain ⟨n, q1⟩ := r
                    have HR := Lib.hid (show rdC 105 X q = some ({ X with id := n }, q1) by show (pnum q).map _ = _; rw [hp]; rfl)
                    have hqb := pnum_by HQ.out.1 HQ.out.2 hp
                    obtain ⟨h0, hn, hq⟩ := pnum_some hp
                    have CT := refTake_yes A c q w1 B1.out.sl.rd HQ.out.1 B1.out.sl.le (by have := HQ.out.2; omega) h0
                    rw [hn, hq] at CT
                    have CT2 := Lib.hid CT
                    have HQ1 := Lib.hid hqb
                    clear CT h0 hn hq hp hqb
                    go_wp2_with fail
                    refine CT2.out.mono ?_
                    rintro e w2 ⟨A2, c2, rfl, o2, b2⟩
                    have C2 := Lib.hid (C1.out.below b2)
                    have I2 := Lib.hid (I1.out.below b2 I1.out.lt)
                    have O2 := Lib.hid (Own.base_leW o2 C1.out.z)
                    clear b2 o2 CT2
                    have x1 := C2.out.kx.cell 1
                    have f1 := C2.out.kx.frozen 1
                    have zx := C2.out.kx.lt
                    simp only [mvC, List.getElem?_toArray, List.getElem?_cons_zero, List.getElem?_cons_succ] at x1
                    have G4 := Lib.hid (show World.grownBy w2 (w2.setCell ⟨gx, 1, none⟩ (.int .u64 n)) (some gx) from only_set (only_refl w2 (some gx)) (p := ⟨gx, 1, none⟩) rfl (.int .u64 n))
                    have K4 := Lib.hid (show Blk (w2.setCell ⟨gx, 1, none⟩ (.int .u64 n)) gx 28 (mvC { X with id := n } nA nc rA rc vA vc) from Blk.set_ (C2.out.kx) 1 (.int .u64 n))
                    have C4 := Lib.hid (C2.out.put G4.out K4.out C2.out.nm C2.out.rs C2.out.vs)
                    have B4 := Lib.hid ((show BAt w2 gx A2 c2 q1 from BAt.of_own O2.out).grown G4.out (fun g e => by injection e with e; omega) (fun k cur hb e => by injection e with e; exact Blk.ne_ C2.out.kx hb (by decide) e))
                    have I4 := Lib.hid (I2.out.grown G4.out (fun e => by injection e with e; have := HGI.out; omega))
                    go_wp2_with fail
                    go_roundw
                    case rel => exact ⟨pos + 1, { X with id := n }, q1, nA, nc, rA, rc, vA, vc, A2, c2, rfl, Lib.hid ⟨C4.out, HS.out.trans HR.out, B4.out, I4.out, hlt, ⟨HQ1.out.1, HBY.out.2.1, HBY.out.2.2⟩, ⟨HQ1.out.2, HLN.out.2.1, HLN.out.2.2.1, HLN.out.2.2.2⟩⟩⟩
                    case measure =>
                      rw [HM0.out, iterPos_it I4.out]
                      omega
              · as_aux_lemma =>
                  rw [show ((97 : Nat) : Int) = 97 from rfl] at hnx
                  cases hp : pnum q with
                  | none =>
                    have HE := Lib.hid (HFAIL.out (pos + 1) hlt (by rw [HS.out]; show (pnum q).map _ = _; rw [hp]; rfl))
                    have CT := Lib.hid (refTake_no A c q w1 B1.out.sl.rd HQ.out.1 B1.out.sl.le (by have := HQ.out.2; omega) (pnum_none hp))
                    clear hp
                    go_wp2_with fail
                    refine CT.out.mono ?_
                    rintro e w2 ⟨rfl, b2⟩
                    have C2 := Lib.hid (C1.out.below b2)
                    clear b2 CT
                    go_wp2_with (refine wpList_store_row rfl 28 (.tmp 2) (.tmp 121) rfl w.heap.size zeroM rfl rfl 28 _ C2.out.kr info_rmsg rfl zero_one ?_)
                    refine bodyPost_ret (results_row_tmp2W rfl _ _ w.heap.size 28 _ (0, 0) _ rfl (Blk.setRowPW C2.out.kr) Tryd.underlying28 rfl (by kernel_rfl)) rfl ?_
                    show P9 _ _
                    rw [HP.out]
                    exact rread_no HE.out C2.out.bel C2.out.kr
                  | some r =>
                    obtain ⟨n, q1⟩ := r
                    have HR := Lib.hid (show rdC 97 X q = some ({ X with alias_ := n }, q1) by show (pnum q).map _ = _; rw [hp]; rfl)
                    have hqb := pnum_by HQ.out.1 HQ.out.2 hp
                    obtain ⟨h0, hn, hq⟩ := pnum_some hp
                    have CT := refTake_yes A c q w1 B1.out.sl.rd HQ.out.1 B1.out.sl.le (by have := HQ.out.2; omega) h0
                    rw [hn, hq] at CT
                    have CT2 := Lib.hid CT
                    have HQ1 := Lib.hid hqb
                    clear CT h0 hn hq hp hqb
                    go_wp2_with fail
                    refine CT2.out.mono ?_
                    rintro e w2 ⟨A2, c2, rfl, o2, b2⟩
                    have C2 := Lib.hid (C1.out.below b2)
                    have I2 := Lib.hid (I1.out.below b2 I1.out.lt)
                    have O2 := Lib.hid (Own.base_leW o2 C1.out.z)
                    clear b2 o2 CT2
                    have x2 := C2.out.kx.cell 2
                    have f2 := C2.out.kx.frozen 2
                    have zx := C2.out.kx.lt
                    simp only [mvC, List.getElem?_toArray, List.getElem?_cons_zero, List.getElem?_cons_succ] at x2
                    have G4 := Lib.hid (show World.grownBy w2 (w2.setCell ⟨gx, 2, none⟩ (.int .u64 n)) (some gx) from only_set (only_refl w2 (some gx)) (p := ⟨gx, 2, none⟩) rfl (.int .u64 n))
                    have K4 := Lib.hid (show Blk (w2.setCell ⟨gx, 2, none⟩ (.int .u64 n)) gx 28 (mvC { X with alias_ := n } nA nc rA rc vA vc) from Blk.set_ (C2.out.kx) 2 (.int .u64 n))
                    have C4 := Lib.hid (C2.out.put G4.out K4.out C2.out.nm C2.out.rs C2.out.vs)
                    have B4 := Lib.hid ((show BAt w2 gx A2 c2 q1 from BAt.of_own O2.out).grown G4.out (fun g e => by injection e with e; omega) (fun k cur hb e => by injection e with e; exact Blk.ne_ C2.out.kx hb (by decide) e))
                    have I4 := Lib.hid (I2.out.grown G4.out (fun e => by injection e with e; have := HGI.out; omega))
                    go_wp2_with fail
                    go_roundw
                    case rel => exact ⟨pos + 1, { X with alias_ := n }, q1, nA, nc, rA, rc, vA, vc, A2, c2, rfl, Lib.hid ⟨C4.out, HS.out.trans HR.out, B4.out, I4.out, hlt, ⟨HQ1.out.1, HBY.out.2.1, HBY.out.2.2⟩, ⟨HQ1.out.2, HLN.out.2.1, HLN.out.2.2.1, HLN.out.2.2.2⟩⟩⟩
                    case measure =>
                      rw [HM0.out, iterPos_it I4.out]
                      omega
              · as_aux_lemma =>
                  rw [show ((116 : Nat) : Int) = 116 from rfl] at hnx
                  cases hp : ptext 1048576 q with
                  | none =>
                    have HE := Lib.hid (HFAIL.out (pos + 1) hlt (by rw [HS.out]; show (ptext 1048576 q).map _ = _; rw [hp]; rfl))
                    rcases ptext_no hp with hv | hv
                    · have CT := Lib.hid (refTT_bad A c q 1048576 2 w1 B1.out.sl.rd HQ.out.1 B1.out.sl.le (by have := HQ.out.2; omega) (by decide) hv (by decide))
                      clear hp hv
                      go_wp2_with fail
                      refine CT.out.mono ?_
                      rintro e w2 ⟨rfl, b2⟩
                      have C2 := Lib.hid (C1.out.below b2)
                      clear b2 CT
                      go_wp2_with (refine wpList_store_row rfl 28 (.tmp 2) (.tmp 121) rfl w.heap.size zeroM rfl rfl 28 _ C2.out.kr info_rmsg rfl zero_one ?_)
                      refine bodyPost_ret (results_row_tmp2W rfl _ _ w.heap.size 28 _ (0, 0) _ rfl (Blk.setRowPW C2.out.kr) Tryd.underlying28 rfl (by kernel_rfl)) rfl ?_
                      show P9 _ _
                      rw [HP.out]
                      exact rread_no HE.out C2.out.bel C2.out.kr
                    · have CT := Lib.hid (refTT_bad A c q 1048576 3 w1 B1.out.sl.rd HQ.out.1 B1.out.sl.le (by have := HQ.out.2; omega) (by decide) hv (by decide))
                      clear hp hv
                      go_wp2_with fail
                      refine CT.out.mono ?_
                      rintro e w2 ⟨rfl, b2⟩
                      have C2 := Lib.hid (C1.out.below b2)
                      clear b2 CT
                      go_wp2_with (refine wpList_store_row rfl 28 (.tmp 2) (.tmp 121) rfl w.heap.size zeroM rfl rfl 28 _ C2.out.kr info_rmsg rfl zero_one ?_)
                      refine bodyPost_ret (results_row_tmp2W rfl _ _ w.heap.size 28 _ (0, 0) _ rfl (Blk.setRowPW C2.out.kr) Tryd.underlying28 rfl (by kernel_rfl)) rfl ?_
                      show P9 _ _
                      rw [HP.out]
                      exact rread_no HE.out C2.out.bel C2.out.kr
                  | some r =>
                    obtain ⟨t, q1⟩ := r
                    have HR := Lib.hid (show rdC 116 X q = some ({ X with name := t }, q1) by show (ptext 1048576 q).map _ = _; rw [hp]; rfl)
                    obtain ⟨hqb, htb⟩ := ptext_by HQ.out.1 HQ.out.2 hp
                    obtain ⟨h0, hn, hq⟩ := ptext_ok hp
                    have CT := refTT_ok A c q 1048576 w1 B1.out.sl.rd HQ.out.1 B1.out.sl.le (by have := HQ.out.2; omega) (by decide) h0
                    rw [hn, hq] at CT
                    have CT2 := Lib.hid CT
                    have HQ1 := Lib.hid hqb
                    have HT := Lib.hid htb
                    clear CT h0 hn hq hp hqb htb
                    go_wp2_with fail
                    refine CT2.out.mono ?_
                    rintro e w2 ⟨A1, c1, A2, c2, rfl, o1, o2, b2⟩
                    have C2 := Lib.hid (C1.out.below b2)
                    have I2 := Lib.hid (I1.out.below b2 I1.out.lt)
                    have O1 := Lib.hid (Own.base_leW o1 C1.out.z)
                    have O2 := Lib.hid (Own.base_leW o2 C1.out.z)
                    clear b2 o1 o2 CT2
                    have x3 := C2.out.kx.cell 3
                    have f3 := C2.out.kx.frozen 3
                    have zx := C2.out.kx.lt
                    simp only [mvC, List.getElem?_toArray, List.getElem?_cons_zero, List.getElem?_cons_succ] at x3
                    have G4 := Lib.hid (show World.grownBy w2 (w2.setCell ⟨gx, 3, none⟩ (.slice A1 t.length c1)) (some gx) from only_set (only_refl w2 (some gx)) (p := ⟨gx, 3, none⟩) rfl (.slice A1 t.length c1))
                    have K4 := Lib.hid (show Blk (w2.setCell ⟨gx, 3, none⟩ (.slice A1 t.length c1)) gx 28 (mvC { X with name := t } A1 c1 rA rc vA vc) from Blk.set_ (C2.out.kx) 3 (.slice A1 t.length c1))
                    have C4 := Lib.hid (C2.out.put G4.out K4.out O1.out C2.out.rs C2.out.vs)
                    have B4 := Lib.hid ((show BAt w2 gx A2 c2 q1 from BAt.of_own O2.out).grown G4.out (fun g e => by injection e with e; omega) (fun k cur hb e => by injection e with e; exact Blk.ne_ C2.out.kx hb (by decide) e))
                    have I4 := Lib.hid (I2.out.grown G4.out (fun e => by injection e with e; have := HGI.out; omega))
                    go_wp2_with fail
                    go_roundw
                    case rel => exact ⟨pos + 1, { X with name := t }, q1, A1, c1, rA, rc, vA, vc, A2, c2, rfl, Lib.hid ⟨C4.out, HS.out.trans HR.out, B4.out, I4.out, hlt, ⟨HQ1.out.1, HT.out.1, HBY.out.2.2⟩, ⟨HQ1.out.2, HT.out.2, HLN.out.2.2.1, HLN.out.2.2.2⟩⟩⟩
                    case measure =>
                      rw [HM0.out, iterPos_it I4.out]
                      omega
              · as_aux_lemma =>
                  rw [show ((112 : Nat) : Int) = 112 from rfl] at hnx
                  rcases q with _ | ⟨x, r⟩
                  · have HE := Lib.hid (HFAIL.out (pos + 1) hlt (by rw [HS.out]; rfl))
                    simp only [List.length_nil]
                    go_wp2_with (refine wpList_store_row rfl 28 (.tmp 2) (.tmp 86) rfl w.heap.size zeroM rfl rfl 28 _ C1.out.kr info_rmsg rfl zero_one ?_)
                    refine bodyPost_ret (results_row_tmp2W rfl _ _ w.heap.size 28 _ (0, 0) _ rfl (Blk.setRowPW C1.out.kr) Tryd.underlying28 rfl (by kernel_rfl)) rfl ?_
                    show P9 _ _
                    rw [HP.out]
                    exact rread_no HE.out C1.out.bel C1.out.kr
                  · obtain ⟨bq, oq, rfl, hbq⟩ := B1.out.sl.rd.some_ (by simp)
                    have k0 := B1.out.sl.rd.cell (j := 0) (x := x) rfl
                    simp only [Nat.add_zero] at k0
                    have hx := HQ.out.1 x (by simp)
                    have HQ1 := Lib.hid (show Bytes r ∧ r.length ≤ 100000 from ⟨fun y hy => HQ.out.1 y (List.mem_cons_of_mem _ hy), by have := HQ.out.2; simp only [List.length_cons] at this; omega⟩)
                    obtain ⟨A2, u1, u2⟩ := B1.out.from_ 1 .i64 (by simp)
                    rw [show (x :: r).drop 1 = r from rfl, show ((1 : Nat) : Int) = 1 from rfl] at u1
                    rw [show (x :: r).drop 1 = r from rfl] at u2
                    obtain ⟨L, hL⟩ : ∃ L, L = (x :: r).length := ⟨_, rfl⟩
                    have hL0 : 0 < L := by rw [hL]; simp
                    rw [← hL] at u1 ⊢
                    have BQ := Lib.hid u2
                    obtain ⟨c2, hc2⟩ : ∃ c2, c2 = c - 1 := ⟨_, rfl⟩
                    rw [← hc2] at u1 BQ
                    have q8 : IntKind.u8.wrap x = x := by rw [IntKind.wrap_u8]; omega
                    have q64 : IntKind.u64.wrap x = x := by rw [IntKind.wrap_u64]; omega
                    have hd := hL0
                    clear hL u2 hc2
                    go_wp2_with fail
                    go_quiet (fail)
                    obtain ⟨w2, hw2⟩ : ∃ w2, w2 = w1.drewN nq := ⟨_, rfl⟩
                    have C2 := Lib.hid (show RdC w w2 gx B0 A7 Q X nA nc rA rc vA vc by rw [hw2]; exact C1.out.drewN nq)
                    have I2 := Lib.hid (show It w2 gi s (pos + 1) by rw [hw2]; exact I1.out)
                    have BQ2 := Lib.hid (show BAt w2 gx A2 c2 r by rw [hw2]; exact BQ.out.drewN nq)
                    rw [← hw2]
                    clear hw2 k0 u1 BQ
                    have HR := Lib.hid (show rdC 112 X (x :: r) = some ({ X with prio := x }, r) from rfl)
                    have x4 := C2.out.kx.cell 4
                    have f4 := C2.out.kx.frozen 4
                    have zx := C2.out.kx.lt
                    simp only [mvC, List.getElem?_toArray, List.getElem?_cons_zero, List.getElem?_cons_succ] at x4
                    have G4 := Lib.hid (show World.grownBy w2 (w2.setCell ⟨gx, 4, none⟩ (.int .u8 x)) (some gx) from only_set (only_refl w2 (some gx)) (p := ⟨gx, 4, none⟩) rfl (.int .u8 x))
                    have K4 := Lib.hid (show Blk (w2.setCell ⟨gx, 4, none⟩ (.int .u8 x)) gx 28 (mvC { X with prio := x } nA nc rA rc vA vc) from Blk.set_ (C2.out.kx) 4 (.int .u8 x))
                    have C4 := Lib.hid (C2.out.put G4.out K4.out C2.out.nm C2.out.rs C2.out.vs)
                    have B4 := Lib.hid ((show BAt w2 gx A2 c2 r from BQ2.out).grown G4.out (fun g e => by injection e with e; omega) (fun k cur hb e => by injection e with e; exact Blk.ne_ C2.out.kx hb (by decide) e))
                    have I4 := Lib.hid (I2.out.grown G4.out (fun e => by injection e with e; have := HGI.out; omega))
                    go_wp2_with fail
                    go_roundw
                    case rel => exact ⟨pos + 1, { X with prio := x }, r, nA, nc, rA, rc, vA, vc, A2, c2, rfl, Lib.hid ⟨C4.out, HS.out.trans HR.out, B4.out, I4.out, hlt, ⟨HQ1.out.1, HBY.out.2.1, HBY.out.2.2⟩, ⟨HQ1.out.2, HLN.out.2.1, HLN.out.2.2.1, HLN.out.2.2.2⟩⟩⟩
                    case measure =>
                      rw [HM0.out, iterPos_it I4.out]
                      omega
              · as_aux_lemma =>
                  rw [show ((111 : Nat) : Int) = 111 from rfl] at hnx
                  rcases q with _ | ⟨x, r⟩
                  · have HE := Lib.hid (HFAIL.out (pos + 1) hlt (by rw [HS.out]; rfl))
                    simp only [List.length_nil]
                    go_wp2_with (refine wpList_store_row rfl 28 (.tmp 2) (.tmp 86) rfl w.heap.size zeroM rfl rfl 28 _ C1.out.kr info_rmsg rfl zero_one ?_)
                    refine bodyPost_ret (results_row_tmp2W rfl _ _ w.heap.size 28 _ (0, 0) _ rfl (Blk.setRowPW C1.out.kr) Tryd.underlying28 rfl (by kernel_rfl)) rfl ?_
                    show P9 _ _
                    rw [HP.out]
                    exact rread_no HE.out C1.out.bel C1.out.kr
                  · obtain ⟨bq, oq, rfl, hbq⟩ := B1.out.sl.rd.some_ (by simp)
                    have k0 := B1.out.sl.rd.cell (j := 0) (x := x) rfl
                    simp only [Nat.add_zero] at k0
                    have hx := HQ.out.1 x (by simp)
                    have HQ1 := Lib.hid (show Bytes r ∧ r.length ≤ 100000 from ⟨fun y hy => HQ.out.1 y (List.mem_cons_of_mem _ hy), by have := HQ.out.2; simp only [List.length_cons] at this; omega⟩)
                    obtain ⟨A2, u1, u2⟩ := B1.out.from_ 1 .i64 (by simp)
                    rw [show (x :: r).drop 1 = r from rfl, show ((1 : Nat) : Int) = 1 from rfl] at u1
                    rw [show (x :: r).drop 1 = r from rfl] at u2
                    obtain ⟨L, hL⟩ : ∃ L, L = (x :: r).length := ⟨_, rfl⟩
                    have hL0 : 0 < L := by rw [hL]; simp
                    rw [← hL] at u1 ⊢
                    have BQ := Lib.hid u2
                    obtain ⟨c2, hc2⟩ : ∃ c2, c2 = c - 1 := ⟨_, rfl⟩
                    rw [← hc2] at u1 BQ
                    have q8 : IntKind.u8.wrap x = x := by rw [IntKind.wrap_u8]; omega
                    have q64 : IntKind.u64.wrap x = x := by rw [IntKind.wrap_u64]; omega
                    have hd := hL0
                    clear hL u2 hc2
                    go_wp2_with fail
                    go_quiet (fail)
                    obtain ⟨w2, hw2⟩ : ∃ w2, w2 = w1.drewN nq := ⟨_, rfl⟩
                    have C2 := Lib.hid (show RdC w w2 gx B0 A7 Q X nA nc rA rc vA vc by rw [hw2]; exact C1.out.drewN nq)
                    have I2 := Lib.hid (show It w2 gi s (pos + 1) by rw [hw2]; exact I1.out)
                    have BQ2 := Lib.hid (show BAt w2 gx A2 c2 r by rw [hw2]; exact BQ.out.drewN nq)
                    rw [← hw2]
                    clear hw2 k0 u1 BQ
                    have HR := Lib.hid (show rdC 111 X (x :: r) = some ({ X with ord := x }, r) from rfl)
                    have x5 := C2.out.kx.cell 5
                    have f5 := C2.out.kx.frozen 5
                    have zx := C2.out.kx.lt
                    simp only [mvC, List.getElem?_toArray, List.getElem?_cons_zero, List.getElem?_cons_succ] at x5
                    have G4 := Lib.hid (show World.grownBy w2 (w2.setCell ⟨gx, 5, none⟩ (.int .u8 x)) (some gx) from only_set (only_refl w2 (some gx)) (p := ⟨gx, 5, none⟩) rfl (.int .u8 x))
                    have K4 := Lib.hid (show Blk (w2.setCell ⟨gx, 5, none⟩ (.int .u8 x)) gx 28 (mvC { X with ord := x } nA nc rA rc vA vc) from Blk.set_ (C2.out.kx) 5 (.int .u8 x))
                    have C4 := Lib.hid (C2.out.put G4.out K4.out C2.out.nm C2.out.rs C2.out.vs)
                    have B4 := Lib.hid ((show BAt w2 gx A2 c2 r from BQ2.out).grown G4.out (fun g e => by injection e with e; omega) (fun k cur hb e => by injection e with e; exact Blk.ne_ C2.out.kx hb (by decide) e))
                    have I4 := Lib.hid (I2.out.grown G4.out (fun e => by injection e with e; have := HGI.out; omega))
                    go_wp2_with fail
                    go_roundw
                    case rel => exact ⟨pos + 1, { X with ord := x }, r, nA, nc, rA, rc, vA, vc, A2, c2, rfl, Lib.hid ⟨C4.out, HS.out.trans HR.out, B4.out, I4.out, hlt, ⟨HQ1.out.1, HBY.out.2.1, HBY.out.2.2⟩, ⟨HQ1.out.2, HLN.out.2.1, HLN.out.2.2.1, HLN.out.2.2.2⟩⟩⟩
                    case measure =>
                      rw [HM0.out, iterPos_it I4.out]
                      omega
              · as_aux_lemma =>
                  rw [show ((115 : Nat) : Int) = 115 from rfl] at hnx
                  cases hp : pnum q with
                  | none =>
                    have HE := Lib.hid (HFAIL.out (pos + 1) hlt (by rw [HS.out]; show (pplace q).map _ = _; unfold pplace; rw [hp]; rfl))
                    have CT := Lib.hid (refTake_no A c q w1 B1.out.sl.rd HQ.out.1 B1.out.sl.le (by have := HQ.out.2; omega) (pnum_none hp))
                    clear hp
                    go_wp2_with fail
                    refine CT.out.mono ?_
                    rintro e w2 ⟨rfl, b2⟩
                    have C2 := Lib.hid (C1.out.below b2)
                    clear b2 CT
                    go_wp2_with (refine wpList_store_row rfl 28 (.tmp 2) (.tmp 121) rfl w.heap.size zeroM rfl rfl 28 _ C2.out.kr info_rmsg rfl zero_one ?_)
                    refine bodyPost_ret (results_row_tmp2W rfl _ _ w.heap.size 28 _ (0, 0) _ rfl (Blk.setRowPW C2.out.kr) Tryd.underlying28 rfl (by kernel_rfl)) rfl ?_
                    show P9 _ _
                    rw [HP.out]
                    exact rread_no HE.out C2.out.bel C2.out.kr
                  | some r =>
                    obtain ⟨n, q1⟩ := r
                    have HPN1 := Lib.hid hp
                    have hqb := pnum_by HQ.out.1 HQ.out.2 hp
                    obtain ⟨h0, hn, hq⟩ := pnum_some hp
                    have CT := refTake_yes A c q w1 B1.out.sl.rd HQ.out.1 B1.out.sl.le (by have := HQ.out.2; omega) h0
                    rw [hn, hq] at CT
                    have CT2 := Lib.hid CT
                    have HQ1 := Lib.hid hqb
                    clear CT h0 hn hq hp hqb
                    go_wp2_with fail
                    refine CT2.out.mono ?_
                    rintro e w2 ⟨A3, c3, rfl, o2, b2⟩
                    have C2 := Lib.hid (C1.out.below b2)
                    have I2 := Lib.hid (I1.out.below b2 I1.out.lt)
                    have O3 := Lib.hid (Own.base_leW o2 C1.out.z)
                    clear b2 o2 CT2
                    cases hp : pnum q1 with
                    | none =>
                      have HE := Lib.hid (HFAIL.out (pos + 1) hlt (by rw [HS.out]; show (pplace q).map _ = _; unfold pplace; rw [HPN1.out]; simp only; rw [hp]; rfl))
                      have CT := Lib.hid (refTake_no A3 c3 q1 w2 (Rd.of_own O3.out) HQ1.out.1 (Sl.of_own O3.out).le (by have := HQ1.out.2; omega) (pnum_none hp))
                      clear hp
                      go_wp2_with fail
                      refine CT.out.mono ?_
                      rintro e w3 ⟨rfl, b3⟩
                      have C3 := Lib.hid (C2.out.below b3)
                      clear b3 CT
                      go_wp2_with (refine wpList_store_row rfl 28 (.tmp 2) (.tmp 121) rfl w.heap.size zeroM rfl rfl 28 _ C3.out.kr info_rmsg rfl zero_one ?_)
                      refine bodyPost_ret (results_row_tmp2W rfl _ _ w.heap.size 28 _ (0, 0) _ rfl (Blk.setRowPW C3.out.kr) Tryd.underlying28 rfl (by kernel_rfl)) rfl ?_
                      show P9 _ _
                      rw [HP.out]
                      exact rread_no HE.out C3.out.bel C3.out.kr
                    | some r =>
                      obtain ⟨n2, q2⟩ := r
                      have HR := Lib.hid (show rdC 115 X q = some ({ X with sg := n, so := n2 }, q2) by show (pplace q).map _ = _; unfold pplace; rw [HPN1.out]; simp only; rw [hp]; rfl)
                      have hqb := pnum_by HQ1.out.1 HQ1.out.2 hp
                      obtain ⟨h0, hn, hq⟩ := pnum_some hp
                      have CT := refTake_yes A3 c3 q1 w2 (Rd.of_own O3.out) HQ1.out.1 (Sl.of_own O3.out).le (by have := HQ1.out.2; omega) h0
                      rw [hn, hq] at CT
                      have CT2 := Lib.hid CT
                      have HQ2 := Lib.hid hqb
                      clear CT h0 hn hq hp hqb
                      go_wp2_with fail
                      refine CT2.out.mono ?_
                      rintro e w3 ⟨A2, c2, rfl, o2, b3⟩
                      have C3 := Lib.hid (C2.out.below b3)
                      have I3 := Lib.hid (I2.out.below b3 I2.out.lt)
                      have O2 := Lib.hid (Own.base_leW o2 C2.out.z)
                      clear b3 o2 CT2
                      have x6 := C3.out.kx.cell 6
                      have f6 := C3.out.kx.frozen 6
                      have x7 := C3.out.kx.cell 7
                      have f7 := C3.out.kx.frozen 7
                      have zx := C3.out.kx.lt
                      simp only [mvC, List.getElem?_toArray, List.getElem?_cons_zero, List.getElem?_cons_succ] at x6 x7
                      have G4 := Lib.hid (show World.grownBy w3 ((w3.setCell ⟨gx, 6, none⟩ (.int .u64 n)).setCell ⟨gx, 7, none⟩ (.int .u64 n2)) (some gx) from only_set (only_set (only_refl w3 (some gx)) (p := ⟨gx, 6, none⟩) rfl (.int .u64 n)) (p := ⟨gx, 7, none⟩) rfl (.int .u64 n2))
                      have K4 := Lib.hid (show Blk ((w3.setCell ⟨gx, 6, none⟩ (.int .u64 n)).setCell ⟨gx, 7, none⟩ (.int .u64 n2)) gx 28 (mvC { X with sg := n, so := n2 } nA nc rA rc vA vc) from Blk.set_ (Blk.set_ (C3.out.kx) 6 (.int .u64 n)) 7 (.int .u64 n2))
                      have C4 := Lib.hid (C3.out.put G4.out K4.out C3.out.nm C3.out.rs C3.out.vs)
                      have B4 := Lib.hid ((show BAt w3 gx A2 c2 q2 from BAt.of_own O2.out).grown G4.out (fun g e => by injection e with e; omega) (fun k cur hb e => by injection e with e; exact Blk.ne_ C3.out.kx hb (by decide) e))
                      have I4 := Lib.hid (I3.out.grown G4.out (fun e => by injection e with e; have := HGI.out; omega))
                      go_wp2_with fail
                      go_roundw
                      case rel => exact ⟨pos + 1, { X with sg := n, so := n2 }, q2, nA, nc, rA, rc, vA, vc, A2, c2, rfl, Lib.hid ⟨C4.out, HS.out.trans HR.out, B4.out, I4.out, hlt, ⟨HQ2.out.1, HBY.out.2.1, HBY.out.2.2⟩, ⟨HQ2.out.2, HLN.out.2.1, HLN.out.2.2.1, HLN.out.2.2.2⟩⟩⟩
                      case measure =>
                        rw [HM0.out, iterPos_it I4.out]
                        omega
              · as_aux_lemma =>
                  rw [show ((101 : Nat) : Int) = 101 from rfl] at hnx
                  cases hp : pnum q with
                  | none =>
                    have HE := Lib.hid (HFAIL.out (pos + 1) hlt (by rw [HS.out]; show (pplace q).map _ = _; unfold pplace; rw [hp]; rfl))
                    have CT := Lib.hid (refTake_no A c q w1 B1.out.sl.rd HQ.out.1 B1.out.sl.le (by have := HQ.out.2; omega) (pnum_none hp))
                    clear hp
                    go_wp2_with fail
                    refine CT.out.mono ?_
                    rintro e w2 ⟨rfl, b2⟩
                    have C2 := Lib.hid (C1.out.below b2)
                    clear b2 CT
                    go_wp2_with (refine wpList_store_row rfl 28 (.tmp 2) (.tmp 121) rfl w.heap.size zeroM rfl rfl 28 _ C2.out.kr info_rmsg rfl zero_one ?_)
                    refine bodyPost_ret (results_row_tmp2W rfl _ _ w.heap.size 28 _ (0, 0) _ rfl (Blk.setRowPW C2.out.kr) Tryd.underlying28 rfl (by kernel_rfl)) rfl ?_
                    show P9 _ _
                    rw [HP.out]
                    exact rread_no HE.out C2.out.bel C2.out.kr
                  | some r =>
                    obtain ⟨n, q1⟩ := r
                    have HPN1 := Lib.hid hp
                    have hqb := pnum_by HQ.out.1 HQ.out.2 hp
                    obtain ⟨h0, hn, hq⟩ := pnum_some hp
                    have CT := refTake_yes A c q w1 B1.out.sl.rd HQ.out.1 B1.out.sl.le (by have := HQ.out.2; omega) h0
                    rw [hn, hq] at CT
                    have CT2 := Lib.hid CT
                    have HQ1 := Lib.hid hqb
                    clear CT h0 hn hq hp hqb
                    go_wp2_with fail
                    refine CT2.out.mono ?_
                    rintro e w2 ⟨A3, c3, rfl, o2, b2⟩
                    have C2 := Lib.hid (C1.out.below b2)
                    have I2 := Lib.hid (I1.out.below b2 I1.out.lt)
                    have O3 := Lib.hid (Own.base_leW o2 C1.out.z)
                    clear b2 o2 CT2
                    cases hp : pnum q1 with
                    | none =>
                      have HE := Lib.hid (HFAIL.out (pos + 1) hlt (by rw [HS.out]; show (pplace q).map _ = _; unfold pplace; rw [HPN1.out]; simp only; rw [hp]; rfl))
                      have CT := Lib.hid (refTake_no A3 c3 q1 w2 (Rd.of_own O3.out) HQ1.out.1 (Sl.of_own O3.out).le (by have := HQ1.out.2; omega) (pnum_none hp))
                      clear hp
                      go_wp2_with fail
                      refine CT.out.mono ?_
                      rintro e w3 ⟨rfl, b3⟩
                      have C3 := Lib.hid (C2.out.below b3)
                      clear b3 CT
                      go_wp2_with (refine wpList_store_row rfl 28 (.tmp 2) (.tmp 121) rfl w.heap.size zeroM rfl rfl 28 _ C3.out.kr info_rmsg rfl zero_one ?_)
                      refine bodyPost_ret (results_row_tmp2W rfl _ _ w.heap.size 28 _ (0, 0) _ rfl (Blk.setRowPW C3.out.kr) Tryd.underlying28 rfl (by kernel_rfl)) rfl ?_
                      show P9 _ _
                      rw [HP.out]
                      exact rread_no HE.out C3.out.bel C3.out.kr
                    | some r =>
                      obtain ⟨n2, q2⟩ := r
                      have HR := Lib.hid (show rdC 101 X q = some ({ X with eg := n, eo := n2 }, q2) by show (pplace q).map _ = _; unfold pplace; rw [HPN1.out]; simp only; rw [hp]; rfl)
                      have hqb := pnum_by HQ1.out.1 HQ1.out.2 hp
                      obtain ⟨h0, hn, hq⟩ := pnum_some hp
                      have CT := refTake_yes A3 c3 q1 w2 (Rd.of_own O3.out) HQ1.out.1 (Sl.of_own O3.out).le (by have := HQ1.out.2; omega) h0
                      rw [hn, hq] at CT
                      have CT2 := Lib.hid CT
                      have HQ2 := Lib.hid hqb
                      clear CT h0 hn hq hp hqb
                      go_wp2_with fail
                      refine CT2.out.mono ?_
                      rintro e w3 ⟨A2, c2, rfl, o2, b3⟩
                      have C3 := Lib.hid (C2.out.below b3)
                      have I3 := Lib.hid (I2.out.below b3 I2.out.lt)
                      have O2 := Lib.hid (Own.base_leW o2 C2.out.z)
                      clear b3 o2 CT2
                      have x8 := C3.out.kx.cell 8
                      have f8 := C3.out.kx.frozen 8
                      have x9 := C3.out.kx.cell 9
                      have f9 := C3.out.kx.frozen 9
                      have zx := C3.out.kx.lt
                      simp only [mvC, List.getElem?_toArray, List.getElem?_cons_zero, List.getElem?_cons_succ] at x8 x9
                      have G4 := Lib.hid (show World.grownBy w3 ((w3.setCell ⟨gx, 8, none⟩ (.int .u64 n)).setCell ⟨gx, 9, none⟩ (.int .u64 n2)) (some gx) from only_set (only_set (only_refl w3 (some gx)) (p := ⟨gx, 8, none⟩) rfl (.int .u64 n)) (p := ⟨gx, 9, none⟩) rfl (.int .u64 n2))
                      have K4 := Lib.hid (show Blk ((w3.setCell ⟨gx, 8, none⟩ (.int .u64 n)).setCell ⟨gx, 9, none⟩ (.int .u64 n2)) gx 28 (mvC { X with eg := n, eo := n2 } nA nc rA rc vA vc) from Blk.set_ (Blk.set_ (C3.out.kx) 8 (.int .u64 n)) 9 (.int .u64 n2))
                      have C4 := Lib.hid (C3.out.put G4.out K4.out C3.out.nm C3.out.rs C3.out.vs)
                      have B4 := Lib.hid ((show BAt w3 gx A2 c2 q2 from BAt.of_own O2.out).grown G4.out (fun g e => by injection e with e; omega) (fun k cur hb e => by injection e with e; exact Blk.ne_ C3.out.kx hb (by decide) e))
                      have I4 := Lib.hid (I3.out.grown G4.out (fun e => by injection e with e; have := HGI.out; omega))
                      go_wp2_with fail
                      go_roundw
                      case rel => exact ⟨pos + 1, { X with eg := n, eo := n2 }, q2, nA, nc, rA, rc, vA, vc, A2, c2, rfl, Lib.hid ⟨C4.out, HS.out.trans HR.out, B4.out, I4.out, hlt, ⟨HQ2.out.1, HBY.out.2.1, HBY.out.2.2⟩, ⟨HQ2.out.2, HLN.out.2.1, HLN.out.2.2.1, HLN.out.2.2.2⟩⟩⟩
                      case measure =>
                        rw [HM0.out, iterPos_it I4.out]
                        omega
              · as_aux_lemma =>
                  rw [show ((103 : Nat) : Int) = 103 from rfl] at hnx
                  cases hp : pnum q with
                  | none =>
                    have HE := Lib.hid (HFAIL.out (pos + 1) hlt (by rw [HS.out]; show (pnum q).map _ = _; rw [hp]; rfl))
                    have CT := Lib.hid (refTake_no A c q w1 B1.out.sl.rd HQ.out.1 B1.out.sl.le (by have := HQ.out.2; omega) (pnum_none hp))
                    clear hp
                    go_wp2_with fail
                    refine CT.out.mono ?_
                    rintro e w2 ⟨rfl, b2⟩
                    have C2 := Lib.hid (C1.out.below b2)
                    clear b2 CT
                    go_wp2_with (refine wpList_store_row rfl 28 (.tmp 2) (.tmp 121) rfl w.heap.size zeroM rfl rfl 28 _ C2.out.kr info_rmsg rfl zero_one ?_)
                    refine bodyPost_ret (results_row_tmp2W rfl _ _ w.heap.size 28 _ (0, 0) _ rfl (Blk.setRowPW C2.out.kr) Tryd.underlying28 rfl (by kernel_rfl)) rfl ?_
                    show P9 _ _
                    rw [HP.out]
                    exact rread_no HE.out C2.out.bel C2.out.kr
                  | some r =>
                    obtain ⟨n, q1⟩ := r
                    have HR := Lib.hid (show rdC 103 X q = some ({ X with eg := n }, q1) by show (pnum q).map _ = _; rw [hp]; rfl)
                    have hqb := pnum_by HQ.out.1 HQ.out.2 hp
                    obtain ⟨h0, hn, hq⟩ := pnum_some hp
                    have CT := refTake_yes A c q w1 B1.out.sl.rd HQ.out.1 B1.out.sl.le (by have := HQ.out.2; omega) h0
                    rw [hn, hq] at CT
                    have CT2 := Lib.hid CT
                    have HQ1 := Lib.hid hqb
                    clear CT h0 hn hq hp hqb
                    go_wp2_with fail
                    refine CT2.out.mono ?_
                    rintro e w2 ⟨A2, c2, rfl, o2, b2⟩
                    have C2 := Lib.hid (C1.out.below b2)
                    have I2 := Lib.hid (I1.out.below b2 I1.out.lt)
                    have O2 := Lib.hid (Own.base_leW o2 C1.out.z)
                    clear b2 o2 CT2
                    have x8 := C2.out.kx.cell 8
                    have f8 := C2.out.kx.frozen 8
                    have zx := C2.out.kx.lt
                    simp only [mvC, List.getElem?_toArray, List.getElem?_cons_zero, List.getElem?_cons_succ] at x8
                    have G4 := Lib.hid (show World.grownBy w2 (w2.setCell ⟨gx, 8, none⟩ (.int .u64 n)) (some gx) from only_set (only_refl w2 (some gx)) (p := ⟨gx, 8, none⟩) rfl (.int .u64 n))
                    have K4 := Lib.hid (show Blk (w2.setCell ⟨gx, 8, none⟩ (.int .u64 n)) gx 28 (mvC { X with eg := n } nA nc rA rc vA vc) from Blk.set_ (C2.out.kx) 8 (.int .u64 n))
                    have C4 := Lib.hid (C2.out.put G4.out K4.out C2.out.nm C2.out.rs C2.out.vs)
                    have B4 := Lib.hid ((show BAt w2 gx A2 c2 q1 from BAt.of_own O2.out).grown G4.out (fun g e => by injection e with e; omega) (fun k cur hb e => by injection e with e; exact Blk.ne_ C2.out.kx hb (by decide) e))
                    have I4 := Lib.hid (I2.out.grown G4.out (fun e => by injection e with e; have := HGI.out; omega))
                    go_wp2_with fail
                    go_roundw
                    case rel => exact ⟨pos + 1, { X with eg := n }, q1, nA, nc, rA, rc, vA, vc, A2, c2, rfl, Lib.hid ⟨C4.out, HS.out.trans HR.out, B4.out, I4.out, hlt, ⟨HQ1.out.1, HBY.out.2.1, HBY.out.2.2⟩, ⟨HQ1.out.2, HLN.out.2.1, HLN.out.2.2.1, HLN.out.2.2.2⟩⟩⟩
                    case measure =>
                      rw [HM0.out, iterPos_it I4.out]
                      omega
              · as_aux_lemma =>
                  rw [show ((98 : Nat) : Int) = 98 from rfl] at hnx
                  rcases q with _ | ⟨x, r⟩
                  · have HE := Lib.hid (HFAIL.out (pos + 1) hlt (by rw [HS.out]; rfl))
                    simp only [List.length_nil]
                    go_wp2_with (refine wpList_store_row rfl 28 (.tmp 2) (.tmp 86) rfl w.heap.size zeroM rfl rfl 28 _ C1.out.kr info_rmsg rfl zero_one ?_)
                    refine bodyPost_ret (results_row_tmp2W rfl _ _ w.heap.size 28 _ (0, 0) _ rfl (Blk.setRowPW C1.out.kr) Tryd.underlying28 rfl (by kernel_rfl)) rfl ?_
                    show P9 _ _
                    rw [HP.out]
                    exact rread_no HE.out C1.out.bel C1.out.kr
                  · obtain ⟨bq, oq, rfl, hbq⟩ := B1.out.sl.rd.some_ (by simp)
                    have k0 := B1.out.sl.rd.cell (j := 0) (x := x) rfl
                    simp only [Nat.add_zero] at k0
                    have hx := HQ.out.1 x (by simp)
                    have HQ1 := Lib.hid (show Bytes r ∧ r.length ≤ 100000 from ⟨fun y hy => HQ.out.1 y (List.mem_cons_of_mem _ hy), by have := HQ.out.2; simp only [List.length_cons] at this; omega⟩)
                    obtain ⟨A2, u1, u2⟩ := B1.out.from_ 1 .i64 (by simp)
                    rw [show (x :: r).drop 1 = r from rfl, show ((1 : Nat) : Int) = 1 from rfl] at u1
                    rw [show (x :: r).drop 1 = r from rfl] at u2
                    obtain ⟨L, hL⟩ : ∃ L, L = (x :: r).length := ⟨_, rfl⟩
                    have hL0 : 0 < L := by rw [hL]; simp
                    rw [← hL] at u1 ⊢
                    have BQ := Lib.hid u2
                    obtain ⟨c2, hc2⟩ : ∃ c2, c2 = c - 1 := ⟨_, rfl⟩
                    rw [← hc2] at u1 BQ
                    have q8 : IntKind.u8.wrap x = x := by rw [IntKind.wrap_u8]; omega
                    have q64 : IntKind.u64.wrap x = x := by rw [IntKind.wrap_u64]; omega
                    have hd := hL0
                    clear hL u2 hc2
                    go_wp2_with fail
                    go_quiet (fail)
                    obtain ⟨w2, hw2⟩ : ∃ w2, w2 = w1.drewN nq := ⟨_, rfl⟩
                    have C2 := Lib.hid (show RdC w w2 gx B0 A7 Q X nA nc rA rc vA vc by rw [hw2]; exact C1.out.drewN nq)
                    have I2 := Lib.hid (show It w2 gi s (pos + 1) by rw [hw2]; exact I1.out)
                    have BQ2 := Lib.hid (show BAt w2 gx A2 c2 r by rw [hw2]; exact BQ.out.drewN nq)
                    rw [← hw2]
                    clear hw2 k0 u1 BQ
                    by_cases hx1 : x ≤ 1
                    · have hgt : (1 : Int) < x ↔ False := by simp; omega
                      have HR := Lib.hid (show rdC 98 X (x :: r) = some ({ X with some_ := x == 1 }, r) by show (if x ≤ 1 then some (x == 1, r) else none).map _ = _; rw [if_pos hx1]; rfl)
                      have x10 := C2.out.kx.cell 10
                      have f10 := C2.out.kx.frozen 10
                      have zx := C2.out.kx.lt
                      simp only [mvC, List.getElem?_toArray, List.getElem?_cons_zero, List.getElem?_cons_succ] at x10
                      have G4 := Lib.hid (show World.grownBy w2 (w2.setCell ⟨gx, 10, none⟩ (.bool (x == 1))) (some gx) from only_set (only_refl w2 (some gx)) (p := ⟨gx, 10, none⟩) rfl (.bool (x == 1)))
                      have K4 := Lib.hid (show Blk (w2.setCell ⟨gx, 10, none⟩ (.bool (x == 1))) gx 28 (mvC { X with some_ := x == 1 } nA nc rA rc vA vc) from Blk.set_ (C2.out.kx) 10 (.bool (x == 1)))
                      have C4 := Lib.hid (C2.out.put G4.out K4.out C2.out.nm C2.out.rs C2.out.vs)
                      have B4 := Lib.hid ((show BAt w2 gx A2 c2 r from BQ2.out).grown G4.out (fun g e => by injection e with e; omega) (fun k cur hb e => by injection e with e; exact Blk.ne_ C2.out.kx hb (by decide) e))
                      have I4 := Lib.hid (I2.out.grown G4.out (fun e => by injection e with e; have := HGI.out; omega))
                      go_wp2_with fail
                      go_roundw
                      case rel => exact ⟨pos + 1, { X with some_ := x == 1 }, r, nA, nc, rA, rc, vA, vc, A2, c2, rfl, Lib.hid ⟨C4.out, HS.out.trans HR.out, B4.out, I4.out, hlt, ⟨HQ1.out.1, HBY.out.2.1, HBY.out.2.2⟩, ⟨HQ1.out.2, HLN.out.2.1, HLN.out.2.2.1, HLN.out.2.2.2⟩⟩⟩
                      case measure =>
                        rw [HM0.out, iterPos_it I4.out]
                        omega
                    · have hgt : (1 : Int) < x := by omega
                      have HE := Lib.hid (HFAIL.out (pos + 1) hlt (by rw [HS.out]; show (if x ≤ 1 then some (x == 1, r) else none).map _ = _; rw [if_neg hx1]; rfl))
                      go_wp2_with (refine wpList_store_row rfl 28 (.tmp 2) (.tmp 166) rfl w.heap.size zeroM rfl rfl 28 _ C2.out.kr info_rmsg rfl zero_one ?_)
                      refine bodyPost_ret (results_row_tmp2W rfl _ _ w.heap.size 28 _ (0, 0) _ rfl (Blk.setRowPW C2.out.kr) Tryd.underlying28 rfl (by kernel_rfl)) rfl ?_
                      show P9 _ _
                      rw [HP.out]
                      exact rread_no HE.out C2.out.bel C2.out.kr
              · as_aux_lemma =>
                  rw [show ((99 : Nat) : Int) = 99 from rfl] at hnx
                  cases hp : pnum q with
                  | none =>
                    have HE := Lib.hid (HFAIL.out (pos + 1) hlt (by rw [HS.out]; show (pnum q).map _ = _; rw [hp]; rfl))
                    have CT := Lib.hid (refTake_no A c q w1 B1.out.sl.rd HQ.out.1 B1.out.sl.le (by have := HQ.out.2; omega) (pnum_none hp))
                    clear hp
                    go_wp2_with fail
                    refine CT.out.mono ?_
                    rintro e w2 ⟨rfl, b2⟩
                    have C2 := Lib.hid (C1.out.below b2)
                    clear b2 CT
                    go_wp2_with (refine wpList_store_row rfl 28 (.tmp 2) (.tmp 121) rfl w.heap.size zeroM rfl rfl 28 _ C2.out.kr info_rmsg rfl zero_one ?_)
                    refine bodyPost_ret (results_row_tmp2W rfl _ _ w.heap.size 28 _ (0, 0) _ rfl (Blk.setRowPW C2.out.kr) Tryd.underlying28 rfl (by kernel_rfl)) rfl ?_
                    show P9 _ _
                    rw [HP.out]
                    exact rread_no HE.out C2.out.bel C2.out.kr
                  | some r =>
                    obtain ⟨n, q1⟩ := r
                    have HR := Lib.hid (show rdC 99 X q = some ({ X with code := n }, q1) by show (pnum q).map _ = _; rw [hp]; rfl)
                    have hqb := pnum_by HQ.out.1 HQ.out.2 hp
                    obtain ⟨h0, hn, hq⟩ := pnum_some hp
                    have CT := refTake_yes A c q w1 B1.out.sl.rd HQ.out.1 B1.out.sl.le (by have := HQ.out.2; omega) h0
                    rw [hn, hq] at CT
                    have CT2 := Lib.hid CT
                    have HQ1 := Lib.hid hqb
                    clear CT h0 hn hq hp hqb
                    go_wp2_with fail
                    refine CT2.out.mono ?_
                    rintro e w2 ⟨A2, c2, rfl, o2, b2⟩
                    have C2 := Lib.hid (C1.out.below b2)
                    have I2 := Lib.hid (I1.out.below b2 I1.out.lt)
                    have O2 := Lib.hid (Own.base_leW o2 C1.out.z)
                    clear b2 o2 CT2
                    have x11 := C2.out.kx.cell 11
                    have f11 := C2.out.kx.frozen 11
                    have zx := C2.out.kx.lt
                    simp only [mvC, List.getElem?_toArray, List.getElem?_cons_zero, List.getElem?_cons_succ] at x11
                    have G4 := Lib.hid (show World.grownBy w2 (w2.setCell ⟨gx, 11, none⟩ (.int .u64 n)) (some gx) from only_set (only_refl w2 (some gx)) (p := ⟨gx, 11, none⟩) rfl (.int .u64 n))
                    have K4 := Lib.hid (show Blk (w2.setCell ⟨gx, 11, none⟩ (.int .u64 n)) gx 28 (mvC { X with code := n } nA nc rA rc vA vc) from Blk.set_ (C2.out.kx) 11 (.int .u64 n))
                    have C4 := Lib.hid (C2.out.put G4.out K4.out C2.out.nm C2.out.rs C2.out.vs)
                    have B4 := Lib.hid ((show BAt w2 gx A2 c2 q1 from BAt.of_own O2.out).grown G4.out (fun g e => by injection e with e; omega) (fun k cur hb e => by injection e with e; exact Blk.ne_ C2.out.kx hb (by decide) e))
                    have I4 := Lib.hid (I2.out.grown G4.out (fun e => by injection e with e; have := HGI.out; omega))
                    go_wp2_with fail
                    go_roundw
                    case rel => exact ⟨pos + 1, { X with code := n }, q1, nA, nc, rA, rc, vA, vc, A2, c2, rfl, Lib.hid ⟨C4.out, HS.out.trans HR.out, B4.out, I4.out, hlt, ⟨HQ1.out.1, HBY.out.2.1, HBY.out.2.2⟩, ⟨HQ1.out.2, HLN.out.2.1, HLN.out.2.2.1, HLN.out.2.2.2⟩⟩⟩
                    case measure =>
                      rw [HM0.out, iterPos_it I4.out]
                      omega
              · as_aux_lemma =>
                  rw [show ((114 : Nat) : Int) = 114 from rfl] at hnx
                  cases hp : ptext 1048576 q with
                  | none =>
                    have HE := Lib.hid (HFAIL.out (pos + 1) hlt (by rw [HS.out]; show (ptext 1048576 q).map _ = _; rw [hp]; rfl))
                    rcases ptext_no hp with hv | hv
                    · have CT := Lib.hid (refTT_bad A c q 1048576 2 w1 B1.out.sl.rd HQ.out.1 B1.out.sl.le (by have := HQ.out.2; omega) (by decide) hv (by decide))
                      clear hp hv
                      go_wp2_with fail
                      refine CT.out.mono ?_
                      rintro e w2 ⟨rfl, b2⟩
                      have C2 := Lib.hid (C1.out.below b2)
                      clear b2 CT
                      go_wp2_with (refine wpList_store_row rfl 28 (.tmp 2) (.tmp 121) rfl w.heap.size zeroM rfl rfl 28 _ C2.out.kr info_rmsg rfl zero_one ?_)
                      refine bodyPost_ret (results_row_tmp2W rfl _ _ w.heap.size 28 _ (0, 0) _ rfl (Blk.setRowPW C2.out.kr) Tryd.underlying28 rfl (by kernel_rfl)) rfl ?_
                      show P9 _ _
                      rw [HP.out]
                      exact rread_no HE.out C2.out.bel C2.out.kr
                    · have CT := Lib.hid (refTT_bad A c q 1048576 3 w1 B1.out.sl.rd HQ.out.1 B1.out.sl.le (by have := HQ.out.2; omega) (by decide) hv (by decide))
                      clear hp hv
                      go_wp2_with fail
                      refine CT.out.mono ?_
                      rintro e w2 ⟨rfl, b2⟩
                      have C2 := Lib.hid (C1.out.below b2)
                      clear b2 CT
                      go_wp2_with (refine wpList_store_row rfl 28 (.tmp 2) (.tmp 121) rfl w.heap.size zeroM rfl rfl 28 _ C2.out.kr info_rmsg rfl zero_one ?_)
                      refine bodyPost_ret (results_row_tmp2W rfl _ _ w.heap.size 28 _ (0, 0) _ rfl (Blk.setRowPW C2.out.kr) Tryd.underlying28 rfl (by kernel_rfl)) rfl ?_
                      show P9 _ _
                      rw [HP.out]
                      exact rread_no HE.out C2.out.bel C2.out.kr
                  | some r =>
                    obtain ⟨t, q1⟩ := r
                    have HR := Lib.hid (show rdC 114 X q = some ({ X with reason := t }, q1) by show (ptext 1048576 q).map _ = _; rw [hp]; rfl)
                    obtain ⟨hqb, htb⟩ := ptext_by HQ.out.1 HQ.out.2 hp
                    obtain ⟨h0, hn, hq⟩ := ptext_ok hp
                    have CT := refTT_ok A c q 1048576 w1 B1.out.sl.rd HQ.out.1 B1.out.sl.le (by have := HQ.out.2; omega) (by decide) h0
                    rw [hn, hq] at CT
                    have CT2 := Lib.hid CT
                    have HQ1 := Lib.hid hqb
                    have HT := Lib.hid htb
                    clear CT h0 hn hq hp hqb htb
                    go_wp2_with fail
                    refine CT2.out.mono ?_
                    rintro e w2 ⟨A1, c1, A2, c2, rfl, o1, o2, b2⟩
                    have C2 := Lib.hid (C1.out.below b2)
                    have I2 := Lib.hid (I1.out.below b2 I1.out.lt)
                    have O1 := Lib.hid (Own.base_leW o1 C1.out.z)
                    have O2 := Lib.hid (Own.base_leW o2 C1.out.z)
                    clear b2 o1 o2 CT2
                    have x12 := C2.out.kx.cell 12
                    have f12 := C2.out.kx.frozen 12
                    have zx := C2.out.kx.lt
                    simp only [mvC, List.getElem?_toArray, List.getElem?_cons_zero, List.getElem?_cons_succ] at x12
                    have G4 := Lib.hid (show World.grownBy w2 (w2.setCell ⟨gx, 12, none⟩ (.slice A1 t.length c1)) (some gx) from only_set (only_refl w2 (some gx)) (p := ⟨gx, 12, none⟩) rfl (.slice A1 t.length c1))
                    have K4 := Lib.hid (show Blk (w2.setCell ⟨gx, 12, none⟩ (.slice A1 t.length c1)) gx 28 (mvC { X with reason := t } nA nc A1 c1 vA vc) from Blk.set_ (C2.out.kx) 12 (.slice A1 t.length c1))
                    have C4 := Lib.hid (C2.out.put G4.out K4.out C2.out.nm O1.out C2.out.vs)
                    have B4 := Lib.hid ((show BAt w2 gx A2 c2 q1 from BAt.of_own O2.out).grown G4.out (fun g e => by injection e with e; omega) (fun k cur hb e => by injection e with e; exact Blk.ne_ C2.out.kx hb (by decide) e))
                    have I4 := Lib.hid (I2.out.grown G4.out (fun e => by injection e with e; have := HGI.out; omega))
                    go_wp2_with fail
                    go_roundw
                    case rel => exact ⟨pos + 1, { X with reason := t }, q1, nA, nc, A1, c1, vA, vc, A2, c2, rfl, Lib.hid ⟨C4.out, HS.out.trans HR.out, B4.out, I4.out, hlt, ⟨HQ1.out.1, HBY.out.2.1, HT.out.1⟩, ⟨HQ1.out.2, HLN.out.2.1, HT.out.2, HLN.out.2.2.2⟩⟩⟩
                    case measure =>
                      rw [HM0.out, iterPos_it I4.out]
                      omega
              · as_aux_lemma =>
                  rw [show ((110 : Nat) : Int) = 110 from rfl] at hnx
                  cases hp : pnum q with
                  | none =>
                    have HE := Lib.hid (HFAIL.out (pos + 1) hlt (by rw [HS.out]; show (pnum q).map _ = _; rw [hp]; rfl))
                    have CT := Lib.hid (refTake_no A c q w1 B1.out.sl.rd HQ.out.1 B1.out.sl.le (by have := HQ.out.2; omega) (pnum_none hp))
                    clear hp
                    go_wp2_with fail
                    refine CT.out.mono ?_
                    rintro e w2 ⟨rfl, b2⟩
                    have C2 := Lib.hid (C1.out.below b2)
                    clear b2 CT
                    go_wp2_with (refine wpList_store_row rfl 28 (.tmp 2) (.tmp 121) rfl w.heap.size zeroM rfl rfl 28 _ C2.out.kr info_rmsg rfl zero_one ?_)
                    refine bodyPost_ret (results_row_tmp2W rfl _ _ w.heap.size 28 _ (0, 0) _ rfl (Blk.setRowPW C2.out.kr) Tryd.underlying28 rfl (by kernel_rfl)) rfl ?_
                    show P9 _ _
                    rw [HP.out]
                    exact rread_no HE.out C2.out.bel C2.out.kr
                  | some r =>
                    obtain ⟨n, q1⟩ := r
                    have HR := Lib.hid (show rdC 110 X q = some ({ X with n := n }, q1) by show (pnum q).map _ = _; rw [hp]; rfl)
                    have hqb := pnum_by HQ.out.1 HQ.out.2 hp
                    obtain ⟨h0, hn, hq⟩ := pnum_some hp
                    have CT := refTake_yes A c q w1 B1.out.sl.rd HQ.out.1 B1.out.sl.le (by have := HQ.out.2; omega) h0
                    rw [hn, hq] at CT
                    have CT2 := Lib.hid CT
                    have HQ1 := Lib.hid hqb
                    clear CT h0 hn hq hp hqb
                    go_wp2_with fail
                    refine CT2.out.mono ?_
                    rintro e w2 ⟨A2, c2, rfl, o2, b2⟩
                    have C2 := Lib.hid (C1.out.below b2)
                    have I2 := Lib.hid (I1.out.below b2 I1.out.lt)
                    have O2 := Lib.hid (Own.base_leW o2 C1.out.z)
                    clear b2 o2 CT2
                    have x13 := C2.out.kx.cell 13
                    have f13 := C2.out.kx.frozen 13
                    have zx := C2.out.kx.lt
                    simp only [mvC, List.getElem?_toArray, List.getElem?_cons_zero, List.getElem?_cons_succ] at x13
                    have G4 := Lib.hid (show World.grownBy w2 (w2.setCell ⟨gx, 13, none⟩ (.int .u64 n)) (some gx) from only_set (only_refl w2 (some gx)) (p := ⟨gx, 13, none⟩) rfl (.int .u64 n))
                    have K4 := Lib.hid (show Blk (w2.setCell ⟨gx, 13, none⟩ (.int .u64 n)) gx 28 (mvC { X with n := n } nA nc rA rc vA vc) from Blk.set_ (C2.out.kx) 13 (.int .u64 n))
                    have C4 := Lib.hid (C2.out.put G4.out K4.out C2.out.nm C2.out.rs C2.out.vs)
                    have B4 := Lib.hid ((show BAt w2 gx A2 c2 q1 from BAt.of_own O2.out).grown G4.out (fun g e => by injection e with e; omega) (fun k cur hb e => by injection e with e; exact Blk.ne_ C2.out.kx hb (by decide) e))
                    have I4 := Lib.hid (I2.out.grown G4.out (fun e => by injection e with e; have := HGI.out; omega))
                    go_wp2_with fail
                    go_roundw
                    case rel => exact ⟨pos + 1, { X with n := n }, q1, nA, nc, rA, rc, vA, vc, A2, c2, rfl, Lib.hid ⟨C4.out, HS.out.trans HR.out, B4.out, I4.out, hlt, ⟨HQ1.out.1, HBY.out.2.1, HBY.out.2.2⟩, ⟨HQ1.out.2, HLN.out.2.1, HLN.out.2.2.1, HLN.out.2.2.2⟩⟩⟩
                    case measure =>
                      rw [HM0.out, iterPos_it I4.out]
                      omega
              · as_aux_lemma =>
                  rw [show ((118 : Nat) : Int) = 118 from rfl] at hnx
                  cases hp : pnum q with
                  | none =>
                    have HE := Lib.hid (HFAIL.out (pos + 1) hlt (by rw [HS.out]; show (pnum q).map _ = _; rw [hp]; rfl))
                    have CT := Lib.hid (refTake_no A c q w1 B1.out.sl.rd HQ.out.1 B1.out.sl.le (by have := HQ.out.2; omega) (pnum_none hp))
                    clear hp
                    go_wp2_with fail
                    refine CT.out.mono ?_
                    rintro e w2 ⟨rfl, b2⟩
                    have C2 := Lib.hid (C1.out.below b2)
                    clear b2 CT
                    go_wp2_with (refine wpList_store_row rfl 28 (.tmp 2) (.tmp 121) rfl w.heap.size zeroM rfl rfl 28 _ C2.out.kr info_rmsg rfl zero_one ?_)
                    refine bodyPost_ret (results_row_tmp2W rfl _ _ w.heap.size 28 _ (0, 0) _ rfl (Blk.setRowPW C2.out.kr) Tryd.underlying28 rfl (by kernel_rfl)) rfl ?_
                    show P9 _ _
                    rw [HP.out]
                    exact rread_no HE.out C2.out.bel C2.out.kr
                  | some r =>
                    obtain ⟨n, q1⟩ := r
                    have HR := Lib.hid (show rdC 118 X q = some ({ X with ver := n }, q1) by show (pnum q).map _ = _; rw [hp]; rfl)
                    have hqb := pnum_by HQ.out.1 HQ.out.2 hp
                    obtain ⟨h0, hn, hq⟩ := pnum_some hp
                    have CT := refTake_yes A c q w1 B1.out.sl.rd HQ.out.1 B1.out.sl.le (by have := HQ.out.2; omega) h0
                    rw [hn, hq] at CT
                    have CT2 := Lib.hid CT
                    have HQ1 := Lib.hid hqb
                    clear CT h0 hn hq hp hqb
                    go_wp2_with fail
                    refine CT2.out.mono ?_
                    rintro e w2 ⟨A2, c2, rfl, o2, b2⟩
                    have C2 := Lib.hid (C1.out.below b2)
                    have I2 := Lib.hid (I1.out.below b2 I1.out.lt)
                    have O2 := Lib.hid (Own.base_leW o2 C1.out.z)
                    clear b2 o2 CT2
                    have x14 := C2.out.kx.cell 14
                    have f14 := C2.out.kx.frozen 14
                    have zx := C2.out.kx.lt
                    simp only [mvC, List.getElem?_toArray, List.getElem?_cons_zero, List.getElem?_cons_succ] at x14
                    have G4 := Lib.hid (show World.grownBy w2 (w2.setCell ⟨gx, 14, none⟩ (.int .u64 n)) (some gx) from only_set (only_refl w2 (some gx)) (p := ⟨gx, 14, none⟩) rfl (.int .u64 n))
                    have K4 := Lib.hid (show Blk (w2.setCell ⟨gx, 14, none⟩ (.int .u64 n)) gx 28 (mvC { X with ver := n } nA nc rA rc vA vc) from Blk.set_ (C2.out.kx) 14 (.int .u64 n))
                    have C4 := Lib.hid (C2.out.put G4.out K4.out C2.out.nm C2.out.rs C2.out.vs)
                    have B4 := Lib.hid ((show BAt w2 gx A2 c2 q1 from BAt.of_own O2.out).grown G4.out (fun g e => by injection e with e; omega) (fun k cur hb e => by injection e with e; exact Blk.ne_ C2.out.kx hb (by decide) e))
                    have I4 := Lib.hid (I2.out.grown G4.out (fun e => by injection e with e; have := HGI.out; omega))
                    go_wp2_with fail
                    go_roundw
                    case rel => exact ⟨pos + 1, { X with ver := n }, q1, nA, nc, rA, rc, vA, vc, A2, c2, rfl, Lib.hid ⟨C4.out, HS.out.trans HR.out, B4.out, I4.out, hlt, ⟨HQ1.out.1, HBY.out.2.1, HBY.out.2.2⟩, ⟨HQ1.out.2, HLN.out.2.1, HLN.out.2.2.1, HLN.out.2.2.2⟩⟩⟩
                    case measure =>
                      rw [HM0.out, iterPos_it I4.out]
                      omega
              · as_aux_lemma =>
                  rw [show ((108 : Nat) : Int) = 108 from rfl] at hnx
                  have hp0 : pos = 0 := shape_108 kind pos (by rw [← HSS.out]; exact HC.out)
                  have hXE : { X with vers := [] } = X := by
                    have h1 := HRUN.out
                    rw [hp0] at h1
                    injection h1 with h1
                    injection h1 with h1 _
                    rw [← h1]
                    rfl
                  have HXE := Lib.hid hXE
                  clear hp0 hXE
                  cases hp : pnum q with
                  | none =>
                    have HE := Lib.hid (HFAIL.out (pos + 1) hlt (by rw [HS.out]; show (plist q).map _ = _; unfold plist; rw [hp]; rfl))
                    have CT := Lib.hid (refTake_no A c q w1 B1.out.sl.rd HQ.out.1 B1.out.sl.le (by have := HQ.out.2; omega) (pnum_none hp))
                    clear hp
                    go_wp2_with fail
                    refine CT.out.mono ?_
                    rintro e w2 ⟨rfl, b2⟩
                    have C2 := Lib.hid (C1.out.below b2)
                    clear b2 CT
                    go_wp2_with (refine wpList_store_row rfl 28 (.tmp 2) (.tmp 121) rfl w.heap.size zeroM rfl rfl 28 _ C2.out.kr info_rmsg rfl zero_one ?_)
                    refine bodyPost_ret (results_row_tmp2W rfl _ _ w.heap.size 28 _ (0, 0) _ rfl (Blk.setRowPW C2.out.kr) Tryd.underlying28 rfl (by kernel_rfl)) rfl ?_
                    show P9 _ _
                    rw [HP.out]
                    exact rread_no HE.out C2.out.bel C2.out.kr
                  | some r =>
                    obtain ⟨n, q1⟩ := r
                    have HPN1 := Lib.hid hp
                    have hqb := pnum_by HQ.out.1 HQ.out.2 hp
                    have hn0 := (pnum_bd HQ.out.1 hp).1
                    obtain ⟨h0, hn, hq⟩ := pnum_some hp
                    have CT := refTake_yes A c q w1 B1.out.sl.rd HQ.out.1 B1.out.sl.le (by have := HQ.out.2; omega) h0
                    rw [hn, hq] at CT
                    have CT2 := Lib.hid CT
                    have HQ1 := Lib.hid hqb
                    clear CT h0 hn hq hp hqb
                    go_wp2_with fail
                    refine CT2.out.mono ?_
                    rintro e w2 ⟨A3, c3, rfl, o2, b2⟩
                    have C2 := Lib.hid (C1.out.below b2)
                    have I2 := Lib.hid (I1.out.below b2 I1.out.lt)
                    have O3 := Lib.hid (Own.base_leW o2 C1.out.z)
                    clear b2 o2 CT2
                    by_cases hn8 : n ≤ 8
                    · obtain ⟨N, rfl⟩ : ∃ N : Nat, n = (N : Int) := ⟨n.toNat, by omega⟩
                      have hN8 : N ≤ 8 := by omega
                      have hle8 : ¬ ((8 : Int) < (N : Int)) := by omega
                      have HPL := Lib.hid (plist_eq HPN1.out hN8)
                      have IN0 := Lib.hid (show InL w w2 gx gi B0 s A7 Q X nA nc rA rc q1 N pos 0 q1 [] A3 c3 vA vc from
                        ⟨by rw [Nat.sub_zero]; cases pnums N q1 with
                          | none => rfl
                          | some r => rfl, rfl, by rw [HXE.out]; exact C2.out, BAt.of_own O3.out, I2.out, HQ1.out⟩)
                      clear hn0 hn8
                      go_wp2_with fail
                      go_loopw [10, 192] (fun bv iv wr => ∃ (j : Nat) (rest xs : List Int) (A1 : Option Addr) (c1 : Nat) (vA1 : Option Addr) (vc1 : Nat), bv = .slice A1 rest.length c1 ∧ iv = .int .u64 j ∧ j ≤ N ∧ Hid (InL w wr gx gi B0 s A7 Q X nA nc rA rc q1 N pos j rest xs A1 c1 vA1 vc1)) (fun _ iv _ => N - (intOf iv).toNat)
                      case atStart => exact ⟨0, q1, [], A3, c3, vA, vc, rfl, rfl, Nat.zero_le _, IN0⟩
                      case round =>
                        obtain ⟨j, rest, xs, A4, c4, vA1, vc1, rfl, rfl, hj, HI2⟩ := hrel
                        rename World => wj
                        by_cases hlt2 : j < N
                        · have hpn := HI2.out.pn
                          rw [show N - j = (N - (j + 1)) + 1 by omega] at hpn
                          have hd2 : (j : Int) < (N : Int) := by omega
                          have hxl := HI2.out.xl
                          cases hp : pnum rest with
                          | none =>
                            have HE := Lib.hid (HFAIL.out (pos + 1) hlt (by
                              rw [HS.out]
                              show (plist q).map _ = _
                              rw [HPL.out, hpn]
                              unfold pnums
                              rw [hp]
                              rfl))
                            have CT := Lib.hid (refTake_no A4 c4 rest wj HI2.out.b.sl.rd HI2.out.by_.1 HI2.out.b.sl.le (by have := HI2.out.by_.2; omega) (pnum_none hp))
                            clear hp hpn hxl
                            go_wp2_with fail
                            refine CT.out.mono ?_
                            rintro e w5 ⟨rfl, b5⟩
                            have C5 := Lib.hid (HI2.out.core.below b5)
                            clear b5 CT
                            go_wp2_with (refine wpList_store_row rfl 28 (.tmp 2) (.tmp 202) rfl w.heap.size zeroM rfl rfl 28 _ C5.out.kr info_rmsg rfl zero_one ?_)
                            refine bodyPost_ret (results_row_tmp2W rfl _ _ w.heap.size 28 _ (0, 0) _ rfl (Blk.setRowPW C5.out.kr) Tryd.underlying28 rfl (by kernel_rfl)) rfl ?_
                            show P9 _ _
                            rw [HP.out]
                            exact rread_no HE.out C5.out.bel C5.out.kr
                          | some r =>
                            obtain ⟨a, r1⟩ := r
                            have HPN := Lib.hid (show pnums N q1 = match pnums (N - (j + 1)) r1 with | none => none | some (l, r) => some ((xs ++ [a]) ++ l, r) by
                              rw [hpn]
                              exact pnums_stepL hp)
                            have hqb := pnum_by HI2.out.by_.1 HI2.out.by_.2 hp
                            obtain ⟨h0, hn, hq⟩ := pnum_some hp
                            have CT := refTake_yes A4 c4 rest wj HI2.out.b.sl.rd HI2.out.by_.1 HI2.out.b.sl.le (by have := HI2.out.by_.2; omega) h0
                            rw [hn, hq] at CT
                            have CT2 := Lib.hid CT
                            have HQ5 := Lib.hid hqb
                            have hwr : IntKind.u64.wrap ((j : Int) + 1) = ((j + 1 : Nat) : Int) := by rw [IntWalk.u64_in _ (by omega)]; omega
                            clear CT h0 hn hq hp hqb hpn
                            go_wp2_with fail
                            refine CT2.out.mono ?_
                            rintro e w5 ⟨A5, c5, rfl, o5, b5⟩
                            have C5 := Lib.hid (HI2.out.core.below b5)
                            have I5 := Lib.hid (HI2.out.it.below b5 HI2.out.it.lt)
                            have O5 := Lib.hid (Own.base_leW o5 HI2.out.core.z)
                            have x15 := C5.out.kx.cell 15
                            have f15 := C5.out.kx.frozen 15
                            have zx := C5.out.kx.lt
                            simp only [mvC, List.getElem?_toArray, List.getElem?_cons_zero, List.getElem?_cons_succ] at x15
                            have ba := (Below.refl w5.heap.size w5).alloc (Nat.le_refl _) (.cells #[.int .u64 a] 22)
                            have C6 := Lib.hid (C5.out.below ba)
                            have I6 := Lib.hid (I5.out.below ba I5.out.lt)
                            have B6 := Lib.hid ((show BAt w5 gx A5 c5 r1 from BAt.of_own O5.out).below ba)
                            have R6 := Lib.hid (OwnV.reads (lit1W w5 a))
                            obtain ⟨XS, hXS⟩ : ∃ XS, XS = xs ++ [a] := ⟨_, rfl⟩
                            have HXS := Lib.hid hXS
                            have HXL := Lib.hid hxl
                            have hz6 := C6.out.z
                            clear b5 o5 CT2 ba hXS hxl
                            go_wp2_with (at_builtin
                                         go_must (refine wpList_appUX rfl (.tmp 204) (.tmp 206) rfl B0 (l := xs) (news := [a]) XS HXS.out rfl rfl C6.out.vs R6.out (by have := HXL.out; simp; omega) C6.out.z ?_)
                                         intro A8 c8 w8 o8 g8 b8
                                         have C8 := Lib.hid (C6.out.app g8 (OwnV.row_ge C6.out.vs) (fun k cur hb => OwnV.other C6.out.vs (by decide) k cur hb |> fun h e => h e) o8)
                                         have kx8 := C6.out.kx.grown g8 (fun e => by have := OwnV.row_ge C6.out.vs gx e.symm; have := C6.out.o3; omega)
                                         have x15b := kx8.cell 15
                                         have f15b := kx8.frozen 15
                                         have zx8 := kx8.lt
                                         simp only [mvC, List.getElem?_toArray, List.getElem?_cons_zero, List.getElem?_cons_succ] at x15b
                                         have I8 := Lib.hid ((I6.out.grown g8 (fun e => by have := OwnV.row_ge C6.out.vs gi e.symm; have := HGI.out; omega)).grown (gsetW (g := gx) (i := 15) (u := .slice A8 XS.length c8)) (fun e => by injection e with e; have := HGI.out; omega))
                                         have B8 := Lib.hid ((B6.out.grown g8 (fun g e => by have := OwnV.row_ge C6.out.vs g e; have := C6.out.o3; omega) (fun k cur hb => OwnV.other C6.out.vs (by decide) k cur hb |> fun h e => h e)).grown (gsetW (g := gx) (i := 15) (u := .slice A8 XS.length c8)) (fun g e => by injection e with e; omega) (fun k cur hb e => by injection e with e; exact Blk.ne_ kx8 hb (by decide) e))
                                         clear o8 g8 b8 kx8)
                            go_roundw
                            case rel => exact ⟨j + 1, r1, XS, A5, c5, A8, c8, rfl, by go_num, by omega, Lib.hid ⟨by rw [HXS.out]; exact HPN.out, by rw [HXS.out, List.length_append, HXL.out]; rfl, C8.out, B8.out, I8.out, HQ5.out⟩⟩
                            case measure => simp [intOf]; omega
                        · have hNj : j = N := by omega
                          have hpn := HI2.out.pn
                          rw [show N - j = 0 by omega] at hpn
                          have HR := Lib.hid (show rdC 108 X q = some ({ X with vers := xs }, rest) by
                            show (plist q).map _ = _
                            rw [HPL.out, hpn]
                            simp [pnums])
                          have HXL := Lib.hid HI2.out.xl
                          have hd2 : ¬ ((j : Int) < (N : Int)) := by omega
                          clear hpn
                          go_wp2_with fail
                          go_roundw
                          case rel => exact ⟨pos + 1, { X with vers := xs }, rest, nA, nc, rA, rc, vA1, vc1, A4, c4, rfl, Lib.hid ⟨HI2.out.core, HS.out.trans HR.out, HI2.out.b, HI2.out.it, hlt, ⟨HI2.out.by_.1, HBY.out.2.1, HBY.out.2.2⟩, ⟨HI2.out.by_.2, HLN.out.2.1, HLN.out.2.2.1, by show xs.length ≤ 8; rw [HXL.out]; omega⟩⟩⟩
                          case measure =>
                            rw [HM0.out, iterPos_it HI2.out.it]
                            omega
                    · have HE := Lib.hid (HFAIL.out (pos + 1) hlt (by rw [HS.out]; show (plist q).map _ = _; rw [plist_none1 HPN1.out hn8]; rfl))
                      have hgt : (8 : Int) < n := by omega
                      clear hn8
                      go_wp2_with (refine wpList_store_row rfl 28 (.tmp 2) (.tmp 190) rfl w.heap.size zeroM rfl rfl 28 _ C2.out.kr info_rmsg rfl zero_one ?_)
                      refine bodyPost_ret (results_row_tmp2W rfl _ _ w.heap.size 28 _ (0, 0) _ rfl (Blk.setRowPW C2.out.kr) Tryd.underlying28 rfl (by kernel_rfl)) rfl ?_
                      show P9 _ _
                      rw [HP.out]
                      exact rread_no HE.out C2.out.bel C2.out.kr
            · as_aux_lemma =>
                have hnx : ∀ ty, (Instr.next (.pointer (some ⟨gi, 0, none⟩)) true ty).run Tryd.prog wr = .ok (.tuple #[.bool false]) wr := fun ty => run_next_it_end wr gi s pos ty HI.out.it hlt
                have hps : pos = s.size := by have := HI.out.le; omega
                have CE := Lib.hid HI.out.core
                have HPR := Lib.hid (show parseR kind q0 = if q.isEmpty && rightM X then some X else none by
                  unfold parseR
                  rw [← HSS.out, ← hps, HI.out.run])
                have HBY := Lib.hid HI.out.by_
                have HLN := Lib.hid HI.out.len
                clear hps HI I0 hlt
                rcases q with _ | ⟨x, r⟩
                · have CR := Lib.hid (refRight_any X nA nc rA rc vA vc wr (Rd.of_own CE.out.nm) (Rd.of_own CE.out.rs) (OwnV.reads CE.out.vs) HBY.out.2.1 HBY.out.2.2 (by have := HLN.out; omega) (by have := HLN.out; omega) (by have := HLN.out; omega))
                  simp only [List.length_nil]
                  unfold mvC at CR
                  have zx := CE.out.kx.lt
                  have d0 := CE.out.kx.cell 0
                  have d1 := CE.out.kx.cell 1
                  have d2 := CE.out.kx.cell 2
                  have d3 := CE.out.kx.cell 3
                  have d4 := CE.out.kx.cell 4
                  have d5 := CE.out.kx.cell 5
                  have d6 := CE.out.kx.cell 6
                  have d7 := CE.out.kx.cell 7
                  have d8 := CE.out.kx.cell 8
                  have d9 := CE.out.kx.cell 9
                  have d10 := CE.out.kx.cell 10
                  have d11 := CE.out.kx.cell 11
                  have d12 := CE.out.kx.cell 12
                  have d13 := CE.out.kx.cell 13
                  have d14 := CE.out.kx.cell 14
                  have d15 := CE.out.kx.cell 15
                  simp only [mvC, List.getElem?_toArray, List.getElem?_cons_zero, List.getElem?_cons_succ] at d0 d1 d2 d3 d4 d5 d6 d7 d8 d9 d10 d11 d12 d13 d14 d15
                  cases hrt : rightM X with
                  | false =>
                    have HE := Lib.hid (show readR p = .error 4 by rw [HRR2.out, HPR.out, hrt]; rfl)
                    rw [hrt] at CR
                    clear hrt
                    go_wp2_with fail
                    refine CR.out.mono ?_
                    rintro e w2 ⟨rfl, b2⟩
                    have C2 := Lib.hid (CE.out.below b2)
                    clear b2 CR CE d0 d1 d2 d3 d4 d5 d6 d7 d8 d9 d10 d11 d12 d13 d14 d15 zx
                    go_wp2_with (refine wpList_store_row rfl 28 (.tmp 2) (.tmp 219) rfl w.heap.size zeroM rfl rfl 28 _ C2.out.kr info_rmsg rfl zero_one ?_)
                    refine bodyPost_ret (results_row_tmp2W rfl _ _ w.heap.size 28 _ (0, 0) _ rfl (Blk.setRowPW C2.out.kr) Tryd.underlying28 rfl (by kernel_rfl)) rfl ?_
                    show P9 _ _
                    rw [HP.out]
                    exact rread_no HE.out C2.out.bel C2.out.kr
                  | true =>
                    have HOK := Lib.hid (show readR p = .ok (X, Q) by rw [HRR2.out, HPR.out, hrt]; rfl)
                    rw [hrt] at CR
                    clear hrt
                    go_wp2_with fail
                    refine CR.out.mono ?_
                    rintro e w2 ⟨rfl, b2⟩
                    have C2 := Lib.hid (CE.out.below b2)
                    clear b2 CR CE d0 d1 d2 d3 d4 d5 d6 d7 d8 d9 d10 d11 d12 d13 d14 d15 zx
                    go_wp2_with fail
                    obtain ⟨MC, hMC⟩ : ∃ MC, MC = mvC X nA nc rA rc vA vc := ⟨_, rfl⟩
                    have HMC := Lib.hid hMC
                    have HMS := Lib.hid (show (Tryd.prog.info? 28).map (·.size) = some MC.size by rw [hMC]; exact info_rmsg)
                    have HM1 := Lib.hid (show MC.all (·.oneCell') = true by rw [hMC]; exact mvC_one _ _ _ _ _ _ _)
                    have KX := Lib.hid (show Blk w2 gx 28 MC by rw [hMC]; exact C2.out.kx)
                    have CPY := Lib.hid (fun W (hb : Below w2.heap.size w2 W) => copy_any A7 c7 Q W (Rd.below (show Rd w2 A7 Q from Reads.more C2.out.bh (Nat.le_of_lt C2.out.kx.lt)) hb) (by have := HQQ.out; omega))
                    clear hMC
                    refine wp_region_held_drew (S := fun w' => Blk w' gx 28 MC) (by kernel_rfl) KX.out.drew (fun s0 => ?_)
                    refine wpAnyH_take (i := 0) (oi := ⟨_, _, _, _, _, _⟩) (v := .agg MC.toList.toArray) rfl (by kernel_rfl) (by kernel_rfl) (by kernel_rfl) (fun _ _ _ h => h) (yieldsIf_load_mid (by rfl) 28 (.tmp 12) rfl gx 0 rfl MC.toList _ (fun w' hS => range_blk hS) Tryd.underlying28 rfl (by rw [Array.length_toList]; exact HMS.out)) s0 ?_
                    simp only [Act.put, List.setIfInBounds_toArray, List.set_cons_zero, List.set_cons_succ]
                    rw [Array.toArray_toList]
                    refine wpAnyH_take (i := 1) (oi := ⟨_, _, _, _, _, _⟩) (v := .slice A7 Q.length c7) rfl (by kernel_rfl) (by kernel_rfl) (by kernel_rfl) (fun _ _ _ h => h) (Or.inl ⟨by rfl, fun w' hS => by go_simp⟩) s0 ?_
                    simp only [Act.put, List.setIfInBounds_toArray, List.set_cons_zero, List.set_cons_succ]
                    refine wpAnyH_ready (rs := [2]) (by kernel_rfl) (by simp) ?_
                    refine AllReadyH.cons rfl (fun K hK => ?_) AllReadyH.nil
                    go_simp
                    refine (CPY.out _ (Below.refl _ _).drew).mono ?_
                    rintro e w12 ⟨A9, c9, rfl, o9, b9⟩
                    have bq : Below w2.heap.size w2 w12 := (Below.refl w2.heap.size w2).drew.trans b9
                    have C12 := Lib.hid (C2.out.below bq)
                    have K12 := Lib.hid (KX.out.below bq KX.out.lt)
                    have O9 := Lib.hid o9
                    refine hK.out _ _ K12.out (fun s2 => ?_)
                    clear hK K o9 b9 bq
                    refine wpAnyH_ready (rs := [3]) (by kernel_rfl) (by simp) ?_
                    refine AllReadyH.cons rfl (fun K hK => ?_) AllReadyH.nil
                    rw [if_pos (by rfl)]
                    refine wp_store_row 28 (.tmp 2) (.tmp 220) rfl w.heap.size MC rfl rfl 28 _ C12.out.kr HMS.out (by rw [HMC.out]; rfl) HM1.out ?_
                    simp only [List.getElem_toArray, List.getElem_cons_succ, List.getElem_cons_zero, Act.put, List.setIfInBounds_toArray, List.set_cons_succ, List.set_cons_zero]
                    have gs : w12.grownBy (w12.setRow w.heap.size MC) (some w.heap.size) := grow_rowW
                    have m13 : Blk (w12.setRow w.heap.size MC) gx 28 MC := K12.out.grown gs (fun e => by injection e with e; have := C12.out.o2; omega)
                    refine hK.out _ _ m13 (fun s3 => ?_)
                    clear hK K
                    refine wpAnyH_take (i := 4) (oi := ⟨_, _, _, _, _, _⟩) (v := .slice A9 Q.length c9) rfl (by kernel_rfl) (by kernel_rfl) (by kernel_rfl) (fun _ _ _ h => h) (Or.inl ⟨by rfl, fun w' hS => by go_simp⟩) s3 ?_
                    simp only [Act.put, List.setIfInBounds_toArray, List.set_cons_zero, List.set_cons_succ]
                    refine wpAnyH_take (i := 5) (oi := ⟨_, _, _, _, _, _⟩) (v := .int .i64 0) rfl (by kernel_rfl) (by kernel_rfl) (by kernel_rfl) (fun _ _ _ h => h) (Or.inl ⟨by rfl, fun w' hS => by go_simp⟩) s3 ?_
                    simp only [Act.put, List.setIfInBounds_toArray, List.set_cons_zero, List.set_cons_succ]
                    refine wpAnyH_done (by kernel_rfl) ?_ _
                    go_wp2_with fail
                    refine bodyPost_ret (results_row_tmp2W rfl _ _ w.heap.size 28 _ (0, 0) _ rfl (Blk.setRowPW C12.out.kr) Tryd.underlying28 rfl HMS.out) rfl ?_
                    show P9 _ _
                    rw [HP.out]
                    have hB0w : w.heap.size ≤ B0 := by have h1 := C12.out.o2; have h2 := C12.out.o3; omega
                    refine ⟨fun m q he => ?_, fun e he => (by rw [HOK.out] at he; cases he), below_gsW C12.out.bel gs (Nat.le_refl _) C12.out.bel.size⟩
                    rw [HOK.out] at he
                    injection he with he
                    injection he with h1 h2
                    subst h1 h2
                    exact ⟨nA, nc, rA, rc, vA, vc, A9, c9, by rw [HMC.out]; rfl, own_gsW (Own.base_leW C12.out.nm hB0w) C12.out.kr (by decide) gs, own_gsW (Own.base_leW C12.out.rs hB0w) C12.out.kr (by decide) gs, ownU_gsW (OwnV.lower C12.out.vs hB0w) C12.out.kr (by decide) gs, own_gsW (Own.base_leW O9.out C2.out.bel.size) C12.out.kr (by decide) gs⟩
                · have HE := Lib.hid (show readR p = .error 4 by rw [HRR2.out, HPR.out]; rfl)
                  obtain ⟨L2, hL2⟩ : ∃ L, L = (x :: r).length := ⟨_, rfl⟩
                  have hLp : 0 < L2 := by rw [hL2]; simp
                  have hLi : (0 : Int) < (L2 : Int) := by omega
                  rw [← hL2]
                  clear hL2
                  go_wp2_with (refine wpList_store_row rfl 28 (.tmp 2) (.tmp 219) rfl w.heap.size zeroM rfl rfl 28 _ CE.out.kr info_rmsg rfl zero_one ?_)
                  refine bodyPost_ret (results_row_tmp2W rfl _ _ w.heap.size 28 _ (0, 0) _ rfl (Blk.setRowPW CE.out.kr) Tryd.underlying28 rfl (by kernel_rfl)) rfl ?_
                  show P9 _ _
                  rw [HP.out]
                  exact rread_no HE.out CE.out.bel CE.out.kr
end Go.Proofs.YtfedofoadfipcaaDoor
