/-
  The reference's Only (made by mkWrdB.py).
-/
import Derived.Test.YtfedofoadfipcaaDoorWrdA
import Derived.Test.YtfedofoadfipcaaDoorWordI
import Derived.Laws.RangeAny
namespace Go.Proofs.YtfedofoadfipcaaDoor
open Go.RowKit
set_option linter.unusedVariables false
set_option linter.unusedSimpArgs false
def chW (s : ByteArray) (j : Nat) : Nat := if h : j < s.size then (s[j]'h).toNat else 0
/-- The field that a letter names. -/
def setC (c : Nat) (m d : MV) : MV :=
  match c with
  | 105 => { d with id := m.id }
  | 97 => { d with alias_ := m.alias_ }
  | 116 => { d with name := m.name }
  | 112 => { d with prio := m.prio }
  | 111 => { d with ord := m.ord }
  | 115 => { d with sg := m.sg, so := m.so }
  | 101 => { d with eg := m.eg, eo := m.eo }
  | 103 => { d with eg := m.eg }
  | 98 => { d with some_ := m.some_ }
  | 99 => { d with code := m.code }
  | 114 => { d with reason := m.reason }
  | 110 => { d with n := m.n }
  | 118 => { d with ver := m.ver }
  | 108 => { d with vers := m.vers }
  | _ => d
def onlyR (s : ByteArray) (m : MV) : Nat → MV
  | 0 => mv0 m.kind
  | j + 1 => setC (chW s j) m (onlyR s m j)
def onlyM (m : MV) : MV := onlyR (shapeW m.kind) m (shapeW m.kind).size
def lettersW : List Nat := [105, 97, 116, 112, 111, 115, 101, 103, 98, 99, 114, 110, 118, 108, 45]
theorem shape_letters (k : Int) : ∀ (j : Nat) (h : j < (shapeW k).size), ((shapeW k)[j]'h).toNat ∈ lettersW := by
  have key : ∀ s ∈ ([⟨#[105, 97, 116, 112, 111, 115, 103]⟩, ⟨#[105, 98, 115]⟩, ⟨#[105, 99, 114]⟩, ⟨#[105, 116]⟩, ⟨#[105]⟩, ⟨#[116]⟩, ⟨#[]⟩, ⟨#[110]⟩, ⟨#[105, 116, 112, 115, 101]⟩, ⟨#[108, 110]⟩, ⟨#[118, 110]⟩, ⟨#[45]⟩] : List ByteArray), ∀ (j : Nat) (h : j < s.size), (s[j]'h).toNat ∈ lettersW := by
    intro s hs j h
    simp only [List.mem_cons, List.not_mem_nil, or_false] at hs
    rcases hs with rfl | rfl | rfl | rfl | rfl | rfl | rfl | rfl | rfl | rfl | rfl | rfl
    all_goals (revert j; decide +kernel)
  have hin : shapeW k ∈ ([⟨#[105, 97, 116, 112, 111, 115, 103]⟩, ⟨#[105, 98, 115]⟩, ⟨#[105, 99, 114]⟩, ⟨#[105, 116]⟩, ⟨#[105]⟩, ⟨#[116]⟩, ⟨#[]⟩, ⟨#[110]⟩, ⟨#[105, 116, 112, 115, 101]⟩, ⟨#[108, 110]⟩, ⟨#[118, 110]⟩, ⟨#[45]⟩] : List ByteArray) := by
    unfold shapeW
    (repeat' split) <;> simp
  exact key _ hin
theorem iterPos_it {w : World} {g : Nat} {s : ByteArray} {pos : Nat} (h : It w g s pos) : w.iterPos g = pos := by
  unfold It at h
  simp [World.iterPos, h]
/-- Where Only's loop stands. -/
structure OnlyI (w wr : World) (g0 gR gx gi : Nat) (s : ByteArray) (m : MV) (nA : Option Addr) (nc : Nat) (rA : Option Addr) (rc : Nat) (vA : Option Addr) (vc : Nat) (pos : Nat) : Prop where
  km : Blk wr g0 28 (mvC m nA nc rA rc vA vc)
  kr : Blk wr gR 28 #[.int .u64 0, .int .u64 0, .int .u64 0, .slice none 0 0, .int .u8 0, .int .u8 0, .int .u64 0, .int .u64 0, .int .u64 0, .int .u64 0, .bool false, .int .u64 0, .slice none 0 0, .int .u64 0, .int .u64 0, .slice none 0 0]
  kx : ∃ nA' nc' rA' rc' vA' vc', Blk wr gx 28 (mvC (onlyR s m pos) nA' nc' rA' rc' vA' vc') ∧ Rd w nA' (onlyR s m pos).name ∧ Rd w rA' (onlyR s m pos).reason ∧ RdI .u64 w vA' (onlyR s m pos).vers
  it : It wr gi s pos
  bel : Below w.heap.size w wr
  le : pos ≤ s.size
/-- What Only answers. -/
structure OnlyTo (w w' : World) (m : MV) (r : Ending) : Prop where
  ok : ∃ nA' nc' rA' rc' vA' vc', r = .returned (.agg (mvC (onlyM m) nA' nc' rA' rc' vA' vc')) ∧ Rd w nA' (onlyM m).name ∧ Rd w rA' (onlyM m).reason ∧ RdI .u64 w vA' (onlyM m).vers
  bel : Below w.heap.size w w'
set_option maxRecDepth 100000 in
set_option maxHeartbeats 6400000 in
theorem refOnly_any (m : MV) (nA : Option Addr) (nc : Nat) (rA : Option Addr) (rc : Nat) (vA : Option Addr) (vc : Nat) (w : World) (hn : Rd w nA m.name) (hr : Rd w rA m.reason) (hv : RdI .u64 w vA m.vers) :
    Calls Tryd.prog 49 #[.agg (mvC m nA nc rA rc vA vc)] w fun r w' => OnlyTo w w' m r := by
  obtain ⟨W, hW⟩ : ∃ W, W = (((w.alloc (.cells #[.int .u64 m.kind, .int .u64 m.id, .int .u64 m.alias_, .slice nA m.name.length nc, .int .u8 m.prio, .int .u8 m.ord, .int .u64 m.sg, .int .u64 m.so, .int .u64 m.eg, .int .u64 m.eo, .bool m.some_, .int .u64 m.code, .slice rA m.reason.length rc, .int .u64 m.n, .int .u64 m.ver, .slice vA m.vers.length vc] 28)).alloc (.cells #[.int .u64 0, .int .u64 0, .int .u64 0, .slice none 0 0, .int .u8 0, .int .u8 0, .int .u64 0, .int .u64 0, .int .u64 0, .int .u64 0, .bool false, .int .u64 0, .slice none 0 0, .int .u64 0, .int .u64 0, .slice none 0 0] 28)).alloc (.cells #[.int .u64 m.kind, .int .u64 0, .int .u64 0, .slice none 0 0, .int .u8 0, .int .u8 0, .int .u64 0, .int .u64 0, .int .u64 0, .int .u64 0, .bool false, .int .u64 0, .slice none 0 0, .int .u64 0, .int .u64 0, .slice none 0 0] 28)) := ⟨_, rfl⟩
  have KM : Blk W w.heap.size 28 (mvC m nA nc rA rc vA vc) := by rw [hW]; exact ((Blk.new _ _ _).alloc _).alloc _
  have KR : Blk W (w.heap.size + 1) 28 #[.int .u64 0, .int .u64 0, .int .u64 0, .slice none 0 0, .int .u8 0, .int .u8 0, .int .u64 0, .int .u64 0, .int .u64 0, .int .u64 0, .bool false, .int .u64 0, .slice none 0 0, .int .u64 0, .int .u64 0, .slice none 0 0] := by rw [hW]; exact (blk_2ndW _ _ _ _).alloc _
  have KX : Blk W (w.heap.size + 2) 28 (mvC (mv0 m.kind) none 0 none 0 none 0) := by
    rw [hW]
    have := Blk.new ((w.alloc (.cells #[.int .u64 m.kind, .int .u64 m.id, .int .u64 m.alias_, .slice nA m.name.length nc, .int .u8 m.prio, .int .u8 m.ord, .int .u64 m.sg, .int .u64 m.so, .int .u64 m.eg, .int .u64 m.eo, .bool m.some_, .int .u64 m.code, .slice rA m.reason.length rc, .int .u64 m.n, .int .u64 m.ver, .slice vA m.vers.length vc] 28)).alloc (.cells #[.int .u64 0, .int .u64 0, .int .u64 0, .slice none 0 0, .int .u8 0, .int .u8 0, .int .u64 0, .int .u64 0, .int .u64 0, .int .u64 0, .bool false, .int .u64 0, .slice none 0 0, .int .u64 0, .int .u64 0, .slice none 0 0] 28)) 28 #[.int .u64 m.kind, .int .u64 0, .int .u64 0, .slice none 0 0, .int .u8 0, .int .u8 0, .int .u64 0, .int .u64 0, .int .u64 0, .int .u64 0, .bool false, .int .u64 0, .slice none 0 0, .int .u64 0, .int .u64 0, .slice none 0 0]
    simpa [mvC, mv0] using this
  have BW : Below w.heap.size w W := by rw [hW]; exact (((Below.refl _ _).alloc (Nat.le_refl _) _).alloc (by simp) _).alloc (by simp; omega) _
  have HR := Lib.hid (And.intro hn (And.intro hr hv))
  have hzW : W.heap.size = w.heap.size + 3 := by rw [hW]; simp
  obtain ⟨s, hs⟩ : ∃ s, s = shapeW m.kind := ⟨_, rfl⟩
  have CS := Lib.hid (fun W' => refShape_any m.kind W')
  rw [← hs] at CS
  have HL := Lib.hid (show ∀ (j : Nat) (h : j < s.size), (s[j]'h).toNat ∈ lettersW by rw [hs]; exact shape_letters m.kind)
  have HW := Lib.hid hW
  obtain ⟨P, hP⟩ : ∃ P : World → Ending → Prop, P = fun w' r => OnlyTo w w' m r := ⟨_, rfl⟩
  have HP := Lib.hid hP
  rw [show (fun r w' => OnlyTo w w' m r) = fun r w' => P w' r by rw [hP]]
  have HSS := Lib.hid hs
  have HKM := Lib.hid KM
  have HKR := Lib.hid KR
  have HKX := Lib.hid KX
  have HBW := Lib.hid BW
  have HZ := Lib.hid hzW
  clear hW hP hs KM KR KX BW hzW hn hr hv
  unfold mvC
  go_enter Tryd.func49, Tryd.ntmps49
  go_wp2_with fail
  rw [← HW.out]
  refine (CS.out W).mono ?_
  rintro e w0 ⟨rfl, hh⟩
  subst hh
  clear CS
  obtain ⟨gx, hgx⟩ : ∃ g, g = w.heap.size + 2 := ⟨_, rfl⟩
  obtain ⟨gi, hgi⟩ : ∃ g, g = W.heap.size := ⟨_, rfl⟩
  obtain ⟨gR, hgR⟩ : ∃ g, g = w.heap.size + 1 := ⟨_, rfl⟩
  obtain ⟨g0, hg0⟩ : ∃ g, g = w.heap.size := ⟨_, rfl⟩
  have hgi3 : gi = g0 + 3 := by have := HZ.out; omega
  have hgx3 : gx = g0 + 2 := by omega
  have hgR3 : gR = g0 + 1 := by omega
  have HORD := Lib.hid (And.intro hgx3 (And.intro hgi3 hgR3))
  rw [show w.heap.size + 1 + 1 = gx by omega, show w.heap.size + 1 = gR from hgR.symm, show w.heap.size = g0 from hg0.symm]
  have KM := Lib.hid (show Blk W g0 28 (mvC m nA nc rA rc vA vc) by rw [hg0]; exact HKM.out)
  have KR := Lib.hid (show Blk W gR 28 #[.int .u64 0, .int .u64 0, .int .u64 0, .slice none 0 0, .int .u8 0, .int .u8 0, .int .u64 0, .int .u64 0, .int .u64 0, .int .u64 0, .bool false, .int .u64 0, .slice none 0 0, .int .u64 0, .int .u64 0, .slice none 0 0] by rw [hgR]; exact HKR.out)
  have KX := Lib.hid (show Blk W gx 28 (mvC (mv0 m.kind) none 0 none 0 none 0) by rw [hgx]; exact HKX.out)
  have HG := Lib.hid hg0
  have HGI := Lib.hid hgi
  have HGW0 := Lib.hid (show w.heap.size = g0 from hg0.symm)
  clear hgx hgi hgR hg0 hgx3 hgi3 hgR3 HKM HKR HKX HZ HW
  have hb0 : Below W.heap.size W (W.iter s 0) := iter_below W s 0
  have I0 := Lib.hid (show OnlyI w (W.iter s 0) g0 gR gx gi s m nA nc rA rc vA vc 0 from ⟨KM.out.below hb0 KM.out.lt, KR.out.below hb0 KR.out.lt, ⟨none, 0, none, 0, none, 0, KX.out.below hb0 KX.out.lt, Rd.nil _ _, Rd.nil _ _, RdI.nil _ _ _⟩, by rw [HGI.out]; exact It.new W s, HBW.out.trans (hb0.mono HBW.out.size), Nat.zero_le _⟩)
  clear KM KR KX HBW hb0
  go_wp2_with fail
  go_loopw [] (fun wr => ∃ pos, Hid (OnlyI w wr g0 gR gx gi s m nA nc rA rc vA vc pos)) (fun wr => s.size - wr.iterPos gi)
  case atStart => exact ⟨0, I0⟩
  case round =>
    obtain ⟨pos, HI⟩ := hrel
    by_cases hlt : pos < s.size
    · have hin := HL.out pos hlt
      obtain ⟨w1, hw1⟩ : ∃ w1, w1 = itSet wr gi s (pos + 1) := ⟨_, rfl⟩
      obtain ⟨ch, hch⟩ : ∃ ch, ch = (s[pos]'hlt).toNat := ⟨_, rfl⟩
      have ha : (s[pos]'hlt).toNat < 128 := by
        have : ∀ c ∈ lettersW, c < 128 := by decide
        exact this _ hin
      have hnx : ∀ ty, (Instr.next (.pointer (some ⟨W.heap.size, 0, none⟩)) true ty).run Tryd.prog wr = .ok (.tuple #[.bool true, .int .i64 pos, .int .i32 ch]) w1 := fun ty => by
        rw [hch, hw1, HGI.out]
        exact run_next_it wr W.heap.size s pos ty (by rw [← HGI.out]; exact HI.out.it) hlt ha
      have G1 : wr.grownBy w1 (some gi) := by rw [hw1]; exact itSet_grown wr gi s (pos + 1)
      obtain ⟨nA', nc', rA', rc', vA', vc', kx, hx1, hx2, hx3⟩ := HI.out.kx
      have hgm := HI.out.it.lt
      have K1M := Lib.hid (HI.out.km.grown G1 (fun e => by injection e with e; have := HORD.out; omega))
      have K1R := Lib.hid (HI.out.kr.grown G1 (fun e => by injection e with e; have := HORD.out; omega))
      have K1X := Lib.hid (kx.grown G1 (fun e => by injection e with e; have := HORD.out; omega))
      have I1 := Lib.hid (show It w1 gi s (pos + 1) by rw [hw1]; exact itSet_it HI.out.it _)
      have B1 := Lib.hid (below_gsW HI.out.bel G1 (by have := HG.out; have := HORD.out; omega) HI.out.bel.size)
      have HM0 := Lib.hid (iterPos_it HI.out.it)
      have HC := Lib.hid (show chW s pos = ch by unfold chW; rw [dif_pos hlt, hch])
      obtain ⟨X, hX⟩ : ∃ X, X = onlyR s m pos := ⟨_, rfl⟩
      rw [← hX] at K1X hx1 hx2 hx3
      have HX := Lib.hid hX
      have HX1 := Lib.hid hx1
      have HX2 := Lib.hid hx2
      have HX3 := Lib.hid hx3
      have hgw : w.heap.size = g0 := HG.out.symm
      have HGW := Lib.hid hgw
      rw [← hch] at hin
      have hsame := hin
      clear hch hw1 hX ha kx hx1 hx2 hx3 HI I0 hgw G1 hgm
      simp only [lettersW, List.mem_cons, List.not_mem_nil, or_false] at hin
      rcases hin with rfl | rfl | rfl | rfl | rfl | rfl | rfl | rfl | rfl | rfl | rfl | rfl | rfl | rfl | rfl
      · -- 105
        have hS := Lib.hid (show onlyR s m (pos + 1) = setC 105 m X by rw [HX.out]; show setC (chW s pos) m (onlyR s m pos) = _; rw [HC.out])
        have m1 := K1M.out.cell 1
        have x1 := K1X.out.cell 1
        have f1 := K1X.out.frozen 1
        have zx := K1X.out.lt
        simp only [mvC, List.getElem?_toArray, List.getElem?_cons_zero, List.getElem?_cons_succ] at m1 x1
        clear hsame
        rw [show ((105 : Nat) : Int) = 105 from rfl] at hnx
        go_wp2_with fail
        go_roundw
        case rel =>
          have g0 := (@gsetW (w1) gx 1 (.int .u64 m.id))
          have gg : w1.grownBy (w1.setCell ⟨gx, 1, none⟩ (.int .u64 m.id)) (some gx) := g0
          have kx2 : Blk (w1.setCell ⟨gx, 1, none⟩ (.int .u64 m.id)) gx 28 (mvC (setC 105 m X) nA' nc' rA' rc' vA' vc') := (Blk.set_ K1X.out 1 (.int .u64 m.id))
          exact ⟨pos + 1, ⟨K1M.out.grown gg (fun e => by injection e with e; have := HORD.out; omega), K1R.out.grown gg (fun e => by injection e with e; have := HORD.out; omega), ⟨nA', nc', rA', rc', vA', vc', by rw [hS.out]; exact kx2, by rw [hS.out]; exact HX1.out, by rw [hS.out]; exact HX2.out, by rw [hS.out]; exact HX3.out⟩, I1.out.grown gg (fun e => by injection e with e; have := HORD.out; omega), below_gsW B1.out gg (by have := HGW.out; have := HORD.out; omega) B1.out.size, hlt⟩⟩
        case measure =>
          rw [HM0.out, iterPos_it (I1.out.grown (show w1.grownBy (w1.setCell ⟨gx, 1, none⟩ (.int .u64 m.id)) (some gx) from gsetW) (fun e => by injection e with e; have := HORD.out; omega))]
          omega
      · -- 97
        have hS := Lib.hid (show onlyR s m (pos + 1) = setC 97 m X by rw [HX.out]; show setC (chW s pos) m (onlyR s m pos) = _; rw [HC.out])
        have m2 := K1M.out.cell 2
        have x2 := K1X.out.cell 2
        have f2 := K1X.out.frozen 2
        have zx := K1X.out.lt
        simp only [mvC, List.getElem?_toArray, List.getElem?_cons_zero, List.getElem?_cons_succ] at m2 x2
        clear hsame
        rw [show ((97 : Nat) : Int) = 97 from rfl] at hnx
        go_wp2_with fail
        go_roundw
        case rel =>
          have g0 := (@gsetW (w1) gx 2 (.int .u64 m.alias_))
          have gg : w1.grownBy (w1.setCell ⟨gx, 2, none⟩ (.int .u64 m.alias_)) (some gx) := g0
          have kx2 : Blk (w1.setCell ⟨gx, 2, none⟩ (.int .u64 m.alias_)) gx 28 (mvC (setC 97 m X) nA' nc' rA' rc' vA' vc') := (Blk.set_ K1X.out 2 (.int .u64 m.alias_))
          exact ⟨pos + 1, ⟨K1M.out.grown gg (fun e => by injection e with e; have := HORD.out; omega), K1R.out.grown gg (fun e => by injection e with e; have := HORD.out; omega), ⟨nA', nc', rA', rc', vA', vc', by rw [hS.out]; exact kx2, by rw [hS.out]; exact HX1.out, by rw [hS.out]; exact HX2.out, by rw [hS.out]; exact HX3.out⟩, I1.out.grown gg (fun e => by injection e with e; have := HORD.out; omega), below_gsW B1.out gg (by have := HGW.out; have := HORD.out; omega) B1.out.size, hlt⟩⟩
        case measure =>
          rw [HM0.out, iterPos_it (I1.out.grown (show w1.grownBy (w1.setCell ⟨gx, 2, none⟩ (.int .u64 m.alias_)) (some gx) from gsetW) (fun e => by injection e with e; have := HORD.out; omega))]
          omega
      · -- 116
        have hS := Lib.hid (show onlyR s m (pos + 1) = setC 116 m X by rw [HX.out]; show setC (chW s pos) m (onlyR s m pos) = _; rw [HC.out])
        have m3 := K1M.out.cell 3
        have x3 := K1X.out.cell 3
        have f3 := K1X.out.frozen 3
        have zx := K1X.out.lt
        simp only [mvC, List.getElem?_toArray, List.getElem?_cons_zero, List.getElem?_cons_succ] at m3 x3
        clear hsame
        rw [show ((116 : Nat) : Int) = 116 from rfl] at hnx
        go_wp2_with fail
        go_roundw
        case rel =>
          have g0 := (@gsetW (w1) gx 3 (.slice nA m.name.length nc))
          have gg : w1.grownBy (w1.setCell ⟨gx, 3, none⟩ (.slice nA m.name.length nc)) (some gx) := g0
          have kx2 : Blk (w1.setCell ⟨gx, 3, none⟩ (.slice nA m.name.length nc)) gx 28 (mvC (setC 116 m X) nA nc rA' rc' vA' vc') := (Blk.set_ K1X.out 3 (.slice nA m.name.length nc))
          exact ⟨pos + 1, ⟨K1M.out.grown gg (fun e => by injection e with e; have := HORD.out; omega), K1R.out.grown gg (fun e => by injection e with e; have := HORD.out; omega), ⟨nA, nc, rA', rc', vA', vc', by rw [hS.out]; exact kx2, by rw [hS.out]; exact HR.out.1, by rw [hS.out]; exact HX2.out, by rw [hS.out]; exact HX3.out⟩, I1.out.grown gg (fun e => by injection e with e; have := HORD.out; omega), below_gsW B1.out gg (by have := HGW.out; have := HORD.out; omega) B1.out.size, hlt⟩⟩
        case measure =>
          rw [HM0.out, iterPos_it (I1.out.grown (show w1.grownBy (w1.setCell ⟨gx, 3, none⟩ (.slice nA m.name.length nc)) (some gx) from gsetW) (fun e => by injection e with e; have := HORD.out; omega))]
          omega
      · -- 112
        have hS := Lib.hid (show onlyR s m (pos + 1) = setC 112 m X by rw [HX.out]; show setC (chW s pos) m (onlyR s m pos) = _; rw [HC.out])
        have m4 := K1M.out.cell 4
        have x4 := K1X.out.cell 4
        have f4 := K1X.out.frozen 4
        have zx := K1X.out.lt
        simp only [mvC, List.getElem?_toArray, List.getElem?_cons_zero, List.getElem?_cons_succ] at m4 x4
        clear hsame
        rw [show ((112 : Nat) : Int) = 112 from rfl] at hnx
        go_wp2_with fail
        go_roundw
        case rel =>
          have g0 := (@gsetW (w1) gx 4 (.int .u8 m.prio))
          have gg : w1.grownBy (w1.setCell ⟨gx, 4, none⟩ (.int .u8 m.prio)) (some gx) := g0
          have kx2 : Blk (w1.setCell ⟨gx, 4, none⟩ (.int .u8 m.prio)) gx 28 (mvC (setC 112 m X) nA' nc' rA' rc' vA' vc') := (Blk.set_ K1X.out 4 (.int .u8 m.prio))
          exact ⟨pos + 1, ⟨K1M.out.grown gg (fun e => by injection e with e; have := HORD.out; omega), K1R.out.grown gg (fun e => by injection e with e; have := HORD.out; omega), ⟨nA', nc', rA', rc', vA', vc', by rw [hS.out]; exact kx2, by rw [hS.out]; exact HX1.out, by rw [hS.out]; exact HX2.out, by rw [hS.out]; exact HX3.out⟩, I1.out.grown gg (fun e => by injection e with e; have := HORD.out; omega), below_gsW B1.out gg (by have := HGW.out; have := HORD.out; omega) B1.out.size, hlt⟩⟩
        case measure =>
          rw [HM0.out, iterPos_it (I1.out.grown (show w1.grownBy (w1.setCell ⟨gx, 4, none⟩ (.int .u8 m.prio)) (some gx) from gsetW) (fun e => by injection e with e; have := HORD.out; omega))]
          omega
      · -- 111
        have hS := Lib.hid (show onlyR s m (pos + 1) = setC 111 m X by rw [HX.out]; show setC (chW s pos) m (onlyR s m pos) = _; rw [HC.out])
        have m5 := K1M.out.cell 5
        have x5 := K1X.out.cell 5
        have f5 := K1X.out.frozen 5
        have zx := K1X.out.lt
        simp only [mvC, List.getElem?_toArray, List.getElem?_cons_zero, List.getElem?_cons_succ] at m5 x5
        clear hsame
        rw [show ((111 : Nat) : Int) = 111 from rfl] at hnx
        go_wp2_with fail
        go_roundw
        case rel =>
          have g0 := (@gsetW (w1) gx 5 (.int .u8 m.ord))
          have gg : w1.grownBy (w1.setCell ⟨gx, 5, none⟩ (.int .u8 m.ord)) (some gx) := g0
          have kx2 : Blk (w1.setCell ⟨gx, 5, none⟩ (.int .u8 m.ord)) gx 28 (mvC (setC 111 m X) nA' nc' rA' rc' vA' vc') := (Blk.set_ K1X.out 5 (.int .u8 m.ord))
          exact ⟨pos + 1, ⟨K1M.out.grown gg (fun e => by injection e with e; have := HORD.out; omega), K1R.out.grown gg (fun e => by injection e with e; have := HORD.out; omega), ⟨nA', nc', rA', rc', vA', vc', by rw [hS.out]; exact kx2, by rw [hS.out]; exact HX1.out, by rw [hS.out]; exact HX2.out, by rw [hS.out]; exact HX3.out⟩, I1.out.grown gg (fun e => by injection e with e; have := HORD.out; omega), below_gsW B1.out gg (by have := HGW.out; have := HORD.out; omega) B1.out.size, hlt⟩⟩
        case measure =>
          rw [HM0.out, iterPos_it (I1.out.grown (show w1.grownBy (w1.setCell ⟨gx, 5, none⟩ (.int .u8 m.ord)) (some gx) from gsetW) (fun e => by injection e with e; have := HORD.out; omega))]
          omega
      · -- 115
        have hS := Lib.hid (show onlyR s m (pos + 1) = setC 115 m X by rw [HX.out]; show setC (chW s pos) m (onlyR s m pos) = _; rw [HC.out])
        have m6 := K1M.out.cell 6
        have x6 := K1X.out.cell 6
        have f6 := K1X.out.frozen 6
        have m7 := K1M.out.cell 7
        have x7 := K1X.out.cell 7
        have f7 := K1X.out.frozen 7
        have zx := K1X.out.lt
        simp only [mvC, List.getElem?_toArray, List.getElem?_cons_zero, List.getElem?_cons_succ] at m6 x6 m7 x7
        clear hsame
        rw [show ((115 : Nat) : Int) = 115 from rfl] at hnx
        go_wp2_with fail
        go_roundw
        case rel =>
          have g0 := (@gsetW (w1) gx 6 (.int .u64 m.sg))
          have g1 := (@gsetW (w1.setCell ⟨gx, 6, none⟩ (.int .u64 m.sg)) gx 7 (.int .u64 m.so))
          have gg : w1.grownBy ((w1.setCell ⟨gx, 6, none⟩ (.int .u64 m.sg)).setCell ⟨gx, 7, none⟩ (.int .u64 m.so)) (some gx) := only_then g0 g1
          have kx2 : Blk ((w1.setCell ⟨gx, 6, none⟩ (.int .u64 m.sg)).setCell ⟨gx, 7, none⟩ (.int .u64 m.so)) gx 28 (mvC (setC 115 m X) nA' nc' rA' rc' vA' vc') := (Blk.set_ (Blk.set_ K1X.out 6 (.int .u64 m.sg)) 7 (.int .u64 m.so))
          exact ⟨pos + 1, ⟨K1M.out.grown gg (fun e => by injection e with e; have := HORD.out; omega), K1R.out.grown gg (fun e => by injection e with e; have := HORD.out; omega), ⟨nA', nc', rA', rc', vA', vc', by rw [hS.out]; exact kx2, by rw [hS.out]; exact HX1.out, by rw [hS.out]; exact HX2.out, by rw [hS.out]; exact HX3.out⟩, I1.out.grown gg (fun e => by injection e with e; have := HORD.out; omega), below_gsW B1.out gg (by have := HGW.out; have := HORD.out; omega) B1.out.size, hlt⟩⟩
        case measure =>
          rw [HM0.out, iterPos_it (I1.out.grown (show w1.grownBy ((w1.setCell ⟨gx, 6, none⟩ (.int .u64 m.sg)).setCell ⟨gx, 7, none⟩ (.int .u64 m.so)) (some gx) from only_then gsetW gsetW) (fun e => by injection e with e; have := HORD.out; omega))]
          omega
      · -- 101
        have hS := Lib.hid (show onlyR s m (pos + 1) = setC 101 m X by rw [HX.out]; show setC (chW s pos) m (onlyR s m pos) = _; rw [HC.out])
        have m8 := K1M.out.cell 8
        have x8 := K1X.out.cell 8
        have f8 := K1X.out.frozen 8
        have m9 := K1M.out.cell 9
        have x9 := K1X.out.cell 9
        have f9 := K1X.out.frozen 9
        have zx := K1X.out.lt
        simp only [mvC, List.getElem?_toArray, List.getElem?_cons_zero, List.getElem?_cons_succ] at m8 x8 m9 x9
        clear hsame
        rw [show ((101 : Nat) : Int) = 101 from rfl] at hnx
        go_wp2_with fail
        go_roundw
        case rel =>
          have g0 := (@gsetW (w1) gx 8 (.int .u64 m.eg))
          have g1 := (@gsetW (w1.setCell ⟨gx, 8, none⟩ (.int .u64 m.eg)) gx 9 (.int .u64 m.eo))
          have gg : w1.grownBy ((w1.setCell ⟨gx, 8, none⟩ (.int .u64 m.eg)).setCell ⟨gx, 9, none⟩ (.int .u64 m.eo)) (some gx) := only_then g0 g1
          have kx2 : Blk ((w1.setCell ⟨gx, 8, none⟩ (.int .u64 m.eg)).setCell ⟨gx, 9, none⟩ (.int .u64 m.eo)) gx 28 (mvC (setC 101 m X) nA' nc' rA' rc' vA' vc') := (Blk.set_ (Blk.set_ K1X.out 8 (.int .u64 m.eg)) 9 (.int .u64 m.eo))
          exact ⟨pos + 1, ⟨K1M.out.grown gg (fun e => by injection e with e; have := HORD.out; omega), K1R.out.grown gg (fun e => by injection e with e; have := HORD.out; omega), ⟨nA', nc', rA', rc', vA', vc', by rw [hS.out]; exact kx2, by rw [hS.out]; exact HX1.out, by rw [hS.out]; exact HX2.out, by rw [hS.out]; exact HX3.out⟩, I1.out.grown gg (fun e => by injection e with e; have := HORD.out; omega), below_gsW B1.out gg (by have := HGW.out; have := HORD.out; omega) B1.out.size, hlt⟩⟩
        case measure =>
          rw [HM0.out, iterPos_it (I1.out.grown (show w1.grownBy ((w1.setCell ⟨gx, 8, none⟩ (.int .u64 m.eg)).setCell ⟨gx, 9, none⟩ (.int .u64 m.eo)) (some gx) from only_then gsetW gsetW) (fun e => by injection e with e; have := HORD.out; omega))]
          omega
      · -- 103
        have hS := Lib.hid (show onlyR s m (pos + 1) = setC 103 m X by rw [HX.out]; show setC (chW s pos) m (onlyR s m pos) = _; rw [HC.out])
        have m8 := K1M.out.cell 8
        have x8 := K1X.out.cell 8
        have f8 := K1X.out.frozen 8
        have zx := K1X.out.lt
        simp only [mvC, List.getElem?_toArray, List.getElem?_cons_zero, List.getElem?_cons_succ] at m8 x8
        clear hsame
        rw [show ((103 : Nat) : Int) = 103 from rfl] at hnx
        go_wp2_with fail
        go_roundw
        case rel =>
          have g0 := (@gsetW (w1) gx 8 (.int .u64 m.eg))
          have gg : w1.grownBy (w1.setCell ⟨gx, 8, none⟩ (.int .u64 m.eg)) (some gx) := g0
          have kx2 : Blk (w1.setCell ⟨gx, 8, none⟩ (.int .u64 m.eg)) gx 28 (mvC (setC 103 m X) nA' nc' rA' rc' vA' vc') := (Blk.set_ K1X.out 8 (.int .u64 m.eg))
          exact ⟨pos + 1, ⟨K1M.out.grown gg (fun e => by injection e with e; have := HORD.out; omega), K1R.out.grown gg (fun e => by injection e with e; have := HORD.out; omega), ⟨nA', nc', rA', rc', vA', vc', by rw [hS.out]; exact kx2, by rw [hS.out]; exact HX1.out, by rw [hS.out]; exact HX2.out, by rw [hS.out]; exact HX3.out⟩, I1.out.grown gg (fun e => by injection e with e; have := HORD.out; omega), below_gsW B1.out gg (by have := HGW.out; have := HORD.out; omega) B1.out.size, hlt⟩⟩
        case measure =>
          rw [HM0.out, iterPos_it (I1.out.grown (show w1.grownBy (w1.setCell ⟨gx, 8, none⟩ (.int .u64 m.eg)) (some gx) from gsetW) (fun e => by injection e with e; have := HORD.out; omega))]
          omega
      · -- 98
        have hS := Lib.hid (show onlyR s m (pos + 1) = setC 98 m X by rw [HX.out]; show setC (chW s pos) m (onlyR s m pos) = _; rw [HC.out])
        have m10 := K1M.out.cell 10
        have x10 := K1X.out.cell 10
        have f10 := K1X.out.frozen 10
        have zx := K1X.out.lt
        simp only [mvC, List.getElem?_toArray, List.getElem?_cons_zero, List.getElem?_cons_succ] at m10 x10
        clear hsame
        rw [show ((98 : Nat) : Int) = 98 from rfl] at hnx
        go_wp2_with fail
        go_roundw
        case rel =>
          have g0 := (@gsetW (w1) gx 10 (.bool m.some_))
          have gg : w1.grownBy (w1.setCell ⟨gx, 10, none⟩ (.bool m.some_)) (some gx) := g0
          have kx2 : Blk (w1.setCell ⟨gx, 10, none⟩ (.bool m.some_)) gx 28 (mvC (setC 98 m X) nA' nc' rA' rc' vA' vc') := (Blk.set_ K1X.out 10 (.bool m.some_))
          exact ⟨pos + 1, ⟨K1M.out.grown gg (fun e => by injection e with e; have := HORD.out; omega), K1R.out.grown gg (fun e => by injection e with e; have := HORD.out; omega), ⟨nA', nc', rA', rc', vA', vc', by rw [hS.out]; exact kx2, by rw [hS.out]; exact HX1.out, by rw [hS.out]; exact HX2.out, by rw [hS.out]; exact HX3.out⟩, I1.out.grown gg (fun e => by injection e with e; have := HORD.out; omega), below_gsW B1.out gg (by have := HGW.out; have := HORD.out; omega) B1.out.size, hlt⟩⟩
        case measure =>
          rw [HM0.out, iterPos_it (I1.out.grown (show w1.grownBy (w1.setCell ⟨gx, 10, none⟩ (.bool m.some_)) (some gx) from gsetW) (fun e => by injection e with e; have := HORD.out; omega))]
          omega
      · -- 99
        have hS := Lib.hid (show onlyR s m (pos + 1) = setC 99 m X by rw [HX.out]; show setC (chW s pos) m (onlyR s m pos) = _; rw [HC.out])
        have m11 := K1M.out.cell 11
        have x11 := K1X.out.cell 11
        have f11 := K1X.out.frozen 11
        have zx := K1X.out.lt
        simp only [mvC, List.getElem?_toArray, List.getElem?_cons_zero, List.getElem?_cons_succ] at m11 x11
        clear hsame
        rw [show ((99 : Nat) : Int) = 99 from rfl] at hnx
        go_wp2_with fail
        go_roundw
        case rel =>
          have g0 := (@gsetW (w1) gx 11 (.int .u64 m.code))
          have gg : w1.grownBy (w1.setCell ⟨gx, 11, none⟩ (.int .u64 m.code)) (some gx) := g0
          have kx2 : Blk (w1.setCell ⟨gx, 11, none⟩ (.int .u64 m.code)) gx 28 (mvC (setC 99 m X) nA' nc' rA' rc' vA' vc') := (Blk.set_ K1X.out 11 (.int .u64 m.code))
          exact ⟨pos + 1, ⟨K1M.out.grown gg (fun e => by injection e with e; have := HORD.out; omega), K1R.out.grown gg (fun e => by injection e with e; have := HORD.out; omega), ⟨nA', nc', rA', rc', vA', vc', by rw [hS.out]; exact kx2, by rw [hS.out]; exact HX1.out, by rw [hS.out]; exact HX2.out, by rw [hS.out]; exact HX3.out⟩, I1.out.grown gg (fun e => by injection e with e; have := HORD.out; omega), below_gsW B1.out gg (by have := HGW.out; have := HORD.out; omega) B1.out.size, hlt⟩⟩
        case measure =>
          rw [HM0.out, iterPos_it (I1.out.grown (show w1.grownBy (w1.setCell ⟨gx, 11, none⟩ (.int .u64 m.code)) (some gx) from gsetW) (fun e => by injection e with e; have := HORD.out; omega))]
          omega
      · -- 114
        have hS := Lib.hid (show onlyR s m (pos + 1) = setC 114 m X by rw [HX.out]; show setC (chW s pos) m (onlyR s m pos) = _; rw [HC.out])
        have m12 := K1M.out.cell 12
        have x12 := K1X.out.cell 12
        have f12 := K1X.out.frozen 12
        have zx := K1X.out.lt
        simp only [mvC, List.getElem?_toArray, List.getElem?_cons_zero, List.getElem?_cons_succ] at m12 x12
        clear hsame
        rw [show ((114 : Nat) : Int) = 114 from rfl] at hnx
        go_wp2_with fail
        go_roundw
        case rel =>
          have g0 := (@gsetW (w1) gx 12 (.slice rA m.reason.length rc))
          have gg : w1.grownBy (w1.setCell ⟨gx, 12, none⟩ (.slice rA m.reason.length rc)) (some gx) := g0
          have kx2 : Blk (w1.setCell ⟨gx, 12, none⟩ (.slice rA m.reason.length rc)) gx 28 (mvC (setC 114 m X) nA' nc' rA rc vA' vc') := (Blk.set_ K1X.out 12 (.slice rA m.reason.length rc))
          exact ⟨pos + 1, ⟨K1M.out.grown gg (fun e => by injection e with e; have := HORD.out; omega), K1R.out.grown gg (fun e => by injection e with e; have := HORD.out; omega), ⟨nA', nc', rA, rc, vA', vc', by rw [hS.out]; exact kx2, by rw [hS.out]; exact HX1.out, by rw [hS.out]; exact HR.out.2.1, by rw [hS.out]; exact HX3.out⟩, I1.out.grown gg (fun e => by injection e with e; have := HORD.out; omega), below_gsW B1.out gg (by have := HGW.out; have := HORD.out; omega) B1.out.size, hlt⟩⟩
        case measure =>
          rw [HM0.out, iterPos_it (I1.out.grown (show w1.grownBy (w1.setCell ⟨gx, 12, none⟩ (.slice rA m.reason.length rc)) (some gx) from gsetW) (fun e => by injection e with e; have := HORD.out; omega))]
          omega
      · -- 110
        have hS := Lib.hid (show onlyR s m (pos + 1) = setC 110 m X by rw [HX.out]; show setC (chW s pos) m (onlyR s m pos) = _; rw [HC.out])
        have m13 := K1M.out.cell 13
        have x13 := K1X.out.cell 13
        have f13 := K1X.out.frozen 13
        have zx := K1X.out.lt
        simp only [mvC, List.getElem?_toArray, List.getElem?_cons_zero, List.getElem?_cons_succ] at m13 x13
        clear hsame
        rw [show ((110 : Nat) : Int) = 110 from rfl] at hnx
        go_wp2_with fail
        go_roundw
        case rel =>
          have g0 := (@gsetW (w1) gx 13 (.int .u64 m.n))
          have gg : w1.grownBy (w1.setCell ⟨gx, 13, none⟩ (.int .u64 m.n)) (some gx) := g0
          have kx2 : Blk (w1.setCell ⟨gx, 13, none⟩ (.int .u64 m.n)) gx 28 (mvC (setC 110 m X) nA' nc' rA' rc' vA' vc') := (Blk.set_ K1X.out 13 (.int .u64 m.n))
          exact ⟨pos + 1, ⟨K1M.out.grown gg (fun e => by injection e with e; have := HORD.out; omega), K1R.out.grown gg (fun e => by injection e with e; have := HORD.out; omega), ⟨nA', nc', rA', rc', vA', vc', by rw [hS.out]; exact kx2, by rw [hS.out]; exact HX1.out, by rw [hS.out]; exact HX2.out, by rw [hS.out]; exact HX3.out⟩, I1.out.grown gg (fun e => by injection e with e; have := HORD.out; omega), below_gsW B1.out gg (by have := HGW.out; have := HORD.out; omega) B1.out.size, hlt⟩⟩
        case measure =>
          rw [HM0.out, iterPos_it (I1.out.grown (show w1.grownBy (w1.setCell ⟨gx, 13, none⟩ (.int .u64 m.n)) (some gx) from gsetW) (fun e => by injection e with e; have := HORD.out; omega))]
          omega
      · -- 118
        have hS := Lib.hid (show onlyR s m (pos + 1) = setC 118 m X by rw [HX.out]; show setC (chW s pos) m (onlyR s m pos) = _; rw [HC.out])
        have m14 := K1M.out.cell 14
        have x14 := K1X.out.cell 14
        have f14 := K1X.out.frozen 14
        have zx := K1X.out.lt
        simp only [mvC, List.getElem?_toArray, List.getElem?_cons_zero, List.getElem?_cons_succ] at m14 x14
        clear hsame
        rw [show ((118 : Nat) : Int) = 118 from rfl] at hnx
        go_wp2_with fail
        go_roundw
        case rel =>
          have g0 := (@gsetW (w1) gx 14 (.int .u64 m.ver))
          have gg : w1.grownBy (w1.setCell ⟨gx, 14, none⟩ (.int .u64 m.ver)) (some gx) := g0
          have kx2 : Blk (w1.setCell ⟨gx, 14, none⟩ (.int .u64 m.ver)) gx 28 (mvC (setC 118 m X) nA' nc' rA' rc' vA' vc') := (Blk.set_ K1X.out 14 (.int .u64 m.ver))
          exact ⟨pos + 1, ⟨K1M.out.grown gg (fun e => by injection e with e; have := HORD.out; omega), K1R.out.grown gg (fun e => by injection e with e; have := HORD.out; omega), ⟨nA', nc', rA', rc', vA', vc', by rw [hS.out]; exact kx2, by rw [hS.out]; exact HX1.out, by rw [hS.out]; exact HX2.out, by rw [hS.out]; exact HX3.out⟩, I1.out.grown gg (fun e => by injection e with e; have := HORD.out; omega), below_gsW B1.out gg (by have := HGW.out; have := HORD.out; omega) B1.out.size, hlt⟩⟩
        case measure =>
          rw [HM0.out, iterPos_it (I1.out.grown (show w1.grownBy (w1.setCell ⟨gx, 14, none⟩ (.int .u64 m.ver)) (some gx) from gsetW) (fun e => by injection e with e; have := HORD.out; omega))]
          omega
      · -- 108
        have hS := Lib.hid (show onlyR s m (pos + 1) = setC 108 m X by rw [HX.out]; show setC (chW s pos) m (onlyR s m pos) = _; rw [HC.out])
        have m15 := K1M.out.cell 15
        have x15 := K1X.out.cell 15
        have f15 := K1X.out.frozen 15
        have zx := K1X.out.lt
        simp only [mvC, List.getElem?_toArray, List.getElem?_cons_zero, List.getElem?_cons_succ] at m15 x15
        clear hsame
        rw [show ((108 : Nat) : Int) = 108 from rfl] at hnx
        go_wp2_with fail
        go_roundw
        case rel =>
          have g0 := (@gsetW (w1) gx 15 (.slice vA m.vers.length vc))
          have gg : w1.grownBy (w1.setCell ⟨gx, 15, none⟩ (.slice vA m.vers.length vc)) (some gx) := g0
          have kx2 : Blk (w1.setCell ⟨gx, 15, none⟩ (.slice vA m.vers.length vc)) gx 28 (mvC (setC 108 m X) nA' nc' rA' rc' vA vc) := (Blk.set_ K1X.out 15 (.slice vA m.vers.length vc))
          exact ⟨pos + 1, ⟨K1M.out.grown gg (fun e => by injection e with e; have := HORD.out; omega), K1R.out.grown gg (fun e => by injection e with e; have := HORD.out; omega), ⟨nA', nc', rA', rc', vA, vc, by rw [hS.out]; exact kx2, by rw [hS.out]; exact HX1.out, by rw [hS.out]; exact HX2.out, by rw [hS.out]; exact HR.out.2.2⟩, I1.out.grown gg (fun e => by injection e with e; have := HORD.out; omega), below_gsW B1.out gg (by have := HGW.out; have := HORD.out; omega) B1.out.size, hlt⟩⟩
        case measure =>
          rw [HM0.out, iterPos_it (I1.out.grown (show w1.grownBy (w1.setCell ⟨gx, 15, none⟩ (.slice vA m.vers.length vc)) (some gx) from gsetW) (fun e => by injection e with e; have := HORD.out; omega))]
          omega
      · -- 45
        have hS := Lib.hid (show onlyR s m (pos + 1) = setC 45 m X by rw [HX.out]; show setC (chW s pos) m (onlyR s m pos) = _; rw [HC.out])
        clear hsame
        rw [show ((45 : Nat) : Int) = 45 from rfl] at hnx
        go_wp2_with fail
        go_roundw
        case rel =>
          have gg : w1.grownBy (w1) (some gx) := World.grownBy.refl _ _
          have kx2 : Blk (w1) gx 28 (mvC (setC 45 m X) nA' nc' rA' rc' vA' vc') := K1X.out
          exact ⟨pos + 1, ⟨K1M.out.grown gg (fun e => by injection e with e; have := HORD.out; omega), K1R.out.grown gg (fun e => by injection e with e; have := HORD.out; omega), ⟨nA', nc', rA', rc', vA', vc', by rw [hS.out]; exact kx2, by rw [hS.out]; exact HX1.out, by rw [hS.out]; exact HX2.out, by rw [hS.out]; exact HX3.out⟩, I1.out.grown gg (fun e => by injection e with e; have := HORD.out; omega), below_gsW B1.out gg (by have := HGW.out; have := HORD.out; omega) B1.out.size, hlt⟩⟩
        case measure =>
          rw [HM0.out, iterPos_it (I1.out.grown (show w1.grownBy (w1) (some gx) from World.grownBy.refl _ _) (fun e => by injection e with e; have := HORD.out; omega))]
          omega
    · have hnx : ∀ ty, (Instr.next (.pointer (some ⟨W.heap.size, 0, none⟩)) true ty).run Tryd.prog wr = .ok (.tuple #[.bool false]) wr := fun ty => run_next_it_end wr W.heap.size s pos ty (by rw [← HGI.out]; exact HI.out.it) hlt
      obtain ⟨nA', nc', rA', rc', vA', vc', kx, hx1, hx2, hx3⟩ := HI.out.kx
      have hps : pos = s.size := by have := HI.out.le; omega
      have KX := Lib.hid kx
      have KR := Lib.hid HI.out.kr
      have BB := Lib.hid HI.out.bel
      obtain ⟨X, hX⟩ : ∃ X, X = onlyR s m pos := ⟨_, rfl⟩
      have hXM : X = onlyM m := by rw [hX, hps, HSS.out]; rfl
      rw [← hX] at KX hx1 hx2 hx3
      have HXM := Lib.hid hXM
      have HX1 := Lib.hid hx1
      have HX2 := Lib.hid hx2
      have HX3 := Lib.hid hx3
      have zx := KX.out.lt
      have d0 := KX.out.cell 0
      have d1 := KX.out.cell 1
      have d2 := KX.out.cell 2
      have d3 := KX.out.cell 3
      have d4 := KX.out.cell 4
      have d5 := KX.out.cell 5
      have d6 := KX.out.cell 6
      have d7 := KX.out.cell 7
      have d8 := KX.out.cell 8
      have d9 := KX.out.cell 9
      have d10 := KX.out.cell 10
      have d11 := KX.out.cell 11
      have d12 := KX.out.cell 12
      have d13 := KX.out.cell 13
      have d14 := KX.out.cell 14
      have d15 := KX.out.cell 15
      simp only [mvC, List.getElem?_toArray, List.getElem?_cons_zero, List.getElem?_cons_succ] at d0 d1 d2 d3 d4 d5 d6 d7 d8 d9 d10 d11 d12 d13 d14 d15
      clear hX hXM hps kx hx1 hx2 hx3 HI I0 HG HSS
      go_wp2_with (refine wpList_store_row rfl 28 (.tmp 2) (.tmp 89) rfl gR _ rfl rfl 28 _ KR.out info_rmsg rfl (by simp [Value.oneCell']) ?_)
      refine bodyPost_ret (v := .agg (mvC X nA' nc' rA' rc' vA' vc')) (results_cell_row rfl _ _ gR 28 _ (0, 0) _ rfl (Blk.setRowPW KR.out) Tryd.underlying28 rfl (by kernel_rfl)) rfl ?_
      show P _ _
      rw [HP.out]
      exact ⟨⟨nA', nc', rA', rc', vA', vc', by rw [← HXM.out], by rw [← HXM.out]; exact HX1.out, by rw [← HXM.out]; exact HX2.out, by rw [← HXM.out]; exact HX3.out⟩, below_gsW BB.out grow_rowW (by have := HGW0.out; have := HORD.out; omega) BB.out.size⟩
end Go.Proofs.YtfedofoadfipcaaDoor
