/-
  The reference's quilt: the map of its bytes; New, Done, Ready.
-/
import Derived.Test.YtdafeokjedmnkaaDoorQuiltP
import Derived.Maps.RangeWalk
namespace Go.Proofs.YtdafeokjedmnkaaDoor
open Go.RowKit Go.Maps
set_option linter.unusedVariables false
set_option linter.unusedSimpArgs false
theorem zeroU8 (w : World) : (zeroValue 5).run Tryd.prog w = .ok (.int .u8 0) w := by kernel_rfl
/-- Block B maps the places of T to their bytes. -/
def MapV (w : World) (B n : Nat) (f : Int → Option Int) (T : List Int) : Prop :=
  ∃ D : DataW Unit, w.ownsMap Tryd.prog 28 (plainElem Tryd.prog 5) B n D ∧ (∀ x : Int, (Lit.int .u64 x).wf = true → Maps.has D (.int .u64 x) = (f x).isSome ∧ D.atKey (.int .u64 x) (.lit (.int .u8 0)) = .lit (.int .u8 ((f x).getD 0))) ∧ Maps.size D = T.length
theorem MapV.made (w : World) : MapV (w.alloc (.map #[] 0)) w.heap.size 0 (fun _ => none) [] :=
  ⟨.map [], World.ownsMap_made _ _ _ _, fun x hx => ⟨rfl, rfl⟩, rfl⟩
section
variable {w w' : World} {B n : Nat} {f : Int → Option Int} {T : List Int}
theorem MapV.kept {row : Option Nat} (h : MapV w B n f T) (hg : w.grownBy w' row) (hne : some B ≠ row) : MapV w' B n f T := by
  obtain ⟨D, h1, h2⟩ := h
  exact ⟨D, h1.kept hg hne, h2⟩
theorem MapV.alloc (h : MapV w B n f T) (o : Obj) : MapV (w.alloc o) B n f T := h.kept (World.grownBy_alloc w o none) (by simp)
theorem MapV.drewN (h : MapV w B n f T) (k : Nat) : MapV (w.drewN k) B n f T := by
  obtain ⟨D, h1, h2⟩ := h
  exact ⟨D, h1, h2⟩
theorem MapV.mono (h : MapV w B n f T) {m : Nat} (hm : n ≤ m) : MapV w B m f T := by
  obtain ⟨D, h1, h2⟩ := h
  exact ⟨D, h1.mono hm, h2⟩
theorem MapV.lt (h : MapV w B n f T) : B < w.heap.size := by
  obtain ⟨D, h1, h2⟩ := h
  exact h1.lt
theorem MapV.obj (h : MapV w B n f T) : ∃ es ck, w.heap[B]? = some (.map es ck) := by
  obtain ⟨D, ⟨es, ck, hb, _⟩, _⟩ := h
  exact ⟨es, ck, hb⟩
theorem MapV.same (h : MapV w B n f T) (he : w'.heap[B]? = w.heap[B]?) : MapV w' B n f T := by
  obtain ⟨D, ⟨es, ck, hb, r⟩, h2⟩ := h
  exact ⟨D, ⟨es, ck, he.trans hb, r⟩, h2⟩
theorem MapV.ne (h : MapV w B n f T) {g : Nat} {t : TypeId} {cs : Array Value} (k : Blk w g t cs) : g ≠ B := by
  obtain ⟨es, ck, hb⟩ := h.obj
  intro e
  subst e
  rw [show w.heap[g]? = _ from k] at hb
  cases hb
theorem MapV.len (h : MapV w B n f T) (ty : TypeId) : (Builtin.len_ #[48] ty #[.map (some B)]).run Tryd.prog w = .ok (.int .i64 (T.length : Int)) w := by
  obtain ⟨D, h1, _, h3⟩ := h
  rw [← h3]
  exact h1.len Tryd.underlying48 ty
theorem MapV.look (h : MapV w B n f T) {x : Int} (hx : (Lit.int .u64 x).wf = true) : (Instr.lookup 48 (.map (some B)) (.int .u64 x) true).run Tryd.prog w = .ok (.tuple #[.int .u8 ((f x).getD 0), .bool (f x).isSome]) w := by
  obtain ⟨D, h1, h2, _⟩ := h
  obtain ⟨v, ps, hrun, hv⟩ := h1.look_ok keyedU Tryd.underlying48 (zeroU8 w) (plainElem_int Tryd.underlying5 (by decide)) (keyU hx)
  rw [(h2 x hx).1] at hrun
  rw [(h2 x hx).2] at hv
  obtain ⟨c, rfl, hc, _⟩ := plainElem_int_inv Tryd.underlying5 hv
  injection hc with hc _
  injection hc with hc
  injection hc with _ hc
  rw [hc]
  exact hrun
theorem MapV.look1 (h : MapV w B n f T) {x : Int} (hx : (Lit.int .u64 x).wf = true) : (Instr.lookup 48 (.map (some B)) (.int .u64 x) false).run Tryd.prog w = .ok (.int .u8 ((f x).getD 0)) w := by
  obtain ⟨D, h1, h2, _⟩ := h
  obtain ⟨v, ps, hrun, hv⟩ := h1.lookup keyedU Tryd.underlying48 (zeroU8 w) (plainElem_int Tryd.underlying5 (by decide)) (keyU hx)
  rw [(h2 x hx).2] at hv
  obtain ⟨c, rfl, hc, _⟩ := plainElem_int_inv Tryd.underlying5 hv
  injection hc with hc _
  injection hc with hc
  injection hc with _ hc
  rw [hc]
  exact hrun
theorem MapV.store (h : MapV w B n f T) (hn : n < maxLen) {x b : Int} (hx : (Lit.int .u64 x).wf = true) (hb : (Lit.int .u8 b).wf = true) (hf : f x = none) :
    ∃ w', (Instr.mapUpdate 48 (.map (some B)) (.int .u64 x) (.int .u8 b)).run Tryd.prog w = .ok () w' ∧ MapV w' B (n + 1) (fun y => if y = x then some b else f y) (T ++ [x]) ∧ w.grownBy w' (some B) := by
  obtain ⟨D, h1, h2, h3⟩ := h
  obtain ⟨w', hrun, r1, r2⟩ := h1.update keyedU Tryd.underlying48 hn (keyU hx) (plainElem_int Tryd.underlying5 hb)
  refine ⟨w', hrun, ⟨_, r1, fun y hy => ?_, ?_⟩, r2⟩
  · by_cases hxy : y = x
    · subst hxy
      simp only [if_true]
      exact ⟨by rw [has_put_same h1.isMap (keyedU.key (keyU hy))]; rfl, atKey_put_same h1.isMap (keyedU.key (keyU hy)) _ _⟩
    · simp only [if_neg hxy]
      rw [has_put_other (by intro e; injection e with _ e; exact hxy e), atKey_put_other (by intro e; injection e with _ e; exact hxy e)]
      exact h2 y hy
  · rw [size_put (h1.tidy keyedU), (h2 x hx).1, h3, hf]
    simp
end
/-- 'm[k] = b' for the walk. -/
theorem wpList_mapV {ops : Array Oper} {rest : List Oper} {o : Oper} {a : Act} {w : World} {Q : Exit → Act → World → Prop} (hg : o.guard = none) (m x v : Operand) (hop : o.op = Op.mapUpdate 48 m x v)
    (B n : Nat) (f : Int → Option Int) (T : List Int) (k b : Int) (hm : a.eval m = .map (some B)) (hx : a.eval x = .int .u64 k) (hv : a.eval v = .int .u8 b) (hk : (Lit.int .u64 k).wf = true) (hb : (Lit.int .u8 b).wf = true) (hf : f k = none) (hown : MapV w B n f T) (hn : n < maxLen)
    (hK : ∀ w', MapV w' B (n + 1) (fun y => if y = k then some b else f y) (T ++ [k]) → w.grownBy w' (some B) → wpList Tryd.prog ops Q rest (a.put o.dst undef) w') : wpList Tryd.prog ops Q (o :: rest) a w := by
  refine wpList_plain hg fun K' hK' => ?_
  obtain ⟨w', hrun, r1, r2⟩ := hown.store hn hk hb hf
  unfold Oper.wp
  simp [execOp, hop, hm, hx, hv, hrun, Result.andThen]
  exact hK' _ _ (hK w' r1 r2)
def XV (B : Nat) (s : QS) : Array Value := #[.map (some B), .int .u64 s.rd, .int .u64 s.hi, .int .u64 (if s.en then s.hi else 0), .bool s.en]
/-- The reference's quilt at x stands for s. -/
structure RQ (w : World) (x B n : Nat) (s : QS) : Prop where
  q : Blk w x 50 (XV B s)
  m : MapV w B n s.f s.T
theorem RQ.drewN {w : World} {x B n : Nat} {s : QS} (h : RQ w x B n s) (k : Nat) : RQ (w.drewN k) x B n s := ⟨h.q, h.m.drewN k⟩
theorem RQ.mono {w : World} {x B n n' : Nat} {s : QS} (h : RQ w x B n s) (hn : n ≤ n') : RQ w x B n' s := ⟨h.q, h.m.mono hn⟩
theorem RQ.alloc {w : World} {x B n : Nat} {s : QS} (h : RQ w x B n s) (o : Obj) : RQ (w.alloc o) x B n s := ⟨h.q.alloc o, h.m.alloc o⟩
theorem RQ.below {w w' : World} {x B n : Nat} {s : QS} (h : RQ w x B n s) (hb : Below w.heap.size w w') : RQ w' x B n s := ⟨h.q.below hb h.q.lt, h.m.same (hb.block B h.m.lt)⟩
theorem rNew_any (w : World) : Calls Tryd.prog 10 #[] w fun r w' => ∃ x B, r = .returned (.pointer (some ⟨x, 0, none⟩)) ∧ RQ w' x B 0 qs0 ∧ w.heap.size ≤ x ∧ w.heap.size ≤ B ∧ Below w.heap.size w w' := by
  have hmm := @run_makeMap Tryd.prog
  have b1 : Below w.heap.size w (w.alloc (.map #[] 0)) := (Below.refl _ _).alloc (Nat.le_refl _) _
  go_enter Tryd.func10, Tryd.ntmps10
  go_wp2_with fail
  go_ret
  refine ⟨w.heap.size + 1, w.heap.size, rfl, ⟨?_, (MapV.made w).alloc _⟩, by omega, by omega, b1.alloc (by simp) _⟩
  have h := Blk.new (w.alloc (.map #[] 0)) 50 (XV w.heap.size qs0)
  have e : (w.alloc (.map #[] 0)).heap.size = w.heap.size + 1 := by simp
  rw [e] at h
  exact h
theorem rDone_any (x B n : Nat) (s : QS) (w : World) (h : RQ w x B n s) : Calls Tryd.prog 24 #[.pointer (some ⟨x, 0, none⟩)] w fun r w' => r = .returned (.bool (s.en && decide (s.rd = s.hi))) ∧ ∃ k, w' = w.drewN k := by
  have c1 := h.q.cell 1
  have c3 := h.q.cell 3
  have c4 := h.q.cell 4
  simp [XV] at c1 c3 c4
  clear h
  generalize s.en = en at *
  generalize s.hi = hi at *
  generalize s.rd = rd at *
  rcases en with _ | _
  · go_enter Tryd.func24, Tryd.ntmps24
    go_wp2_with fail
    go_quiet (fail)
    go_wp2_with fail
    go_ret
    exact ⟨rfl, _, rfl⟩
  · simp only [if_true] at c3
    by_cases he : rd = hi
    · have hd : decide (rd = hi) = true := by simpa using he
      have hb : (rd == hi) = true := by simpa using he
      rw [hd]
      go_enter Tryd.func24, Tryd.ntmps24
      go_wp2_with fail
      go_quiet (fail)
      go_wp2_with fail
      go_ret
      exact ⟨rfl, _, rfl⟩
    · have hd : decide (rd = hi) = false := by simpa using he
      have hb : (rd == hi) = false := by simpa using he
      rw [hd]
      go_enter Tryd.func24, Tryd.ntmps24
      go_wp2_with fail
      go_quiet (fail)
      go_wp2_with fail
      go_ret
      exact ⟨rfl, _, rfl⟩
theorem rReady_any (x B n : Nat) (s : QS) (w : World) (h : RQ w x B n s) (ok : QOk s) (hT : s.T.length ≤ 1000000) : Calls Tryd.prog 20 #[.pointer (some ⟨x, 0, none⟩)] w fun r w' => r = .returned (.int .i64 (s.wh - s.rd)) ∧ ∃ k, w' = w.drewN k := by
  have hwl : s.wh ≤ s.T.length := ok.came.len ok.whl
  have r0 := ok.r0
  have r1 := ok.r1
  have w1 := ok.w1
  have h1' := ok.h1
  have HOK := Lib.hid ok
  have H := Lib.hid h
  have c0 := h.q.cell 0
  simp [XV] at c0
  have LEN := h.m.len 3
  clear h ok
  go_enter Tryd.func20, Tryd.ntmps20
  go_wp2_with fail
  go_loopw [13, 3] (fun i m wr => ∃ k d : Nat, (k : Int) ≤ s.wh - s.rd ∧ i = .int .i64 k ∧ m = .int .i64 k ∧ wr = w.drewN d) (fun i _ _ => s.T.length + 1 - (intOf i).toNat)
  case atStart => exact ⟨0, 0, by omega, rfl, rfl, rfl⟩
  case round =>
    obtain ⟨k, d, hk, rfl, rfl, rfl⟩ := hrel
    by_cases hlt : k < s.T.length
    · have q0 := (H.out.drewN d).q.cell 0
      have q1 := (H.out.drewN d).q.cell 1
      simp [XV] at q0 q1
      have wk : IntKind.u64.wrap (k : Int) = (k : Int) := IntWalk.u64_in _ (by omega)
      have wx : IntKind.u64.wrap (s.rd + (k : Int)) = s.rd + (k : Int) := IntWalk.u64_in _ (by omega)
      have L := (H.out.drewN (d + 1)).m.look (x := s.rd + (k : Int)) (WalkArith.wf_u64 (by omega))
      by_cases hkw : (k : Int) < s.wh - s.rd
      · have hf := HOK.out.whl (s.rd + (k : Int)) (by omega) (by omega)
        obtain ⟨b, hb⟩ := Option.ne_none_iff_exists'.1 hf
        rw [hb] at L
        simp only [Option.getD_some, Option.isSome_some] at L
        clear hb hf
        go_wp2_with fail
        go_region
        go_wp2_with fail
        go_roundw
        case rel => exact ⟨k + 1, d + 1, by omega, by go_num, by go_num, rfl⟩
        case measure => simp [intOf]; omega
      · have hf : s.f (s.rd + (k : Int)) = none := by
          have := HOK.out.stop
          rwa [show s.wh = s.rd + (k : Int) by omega] at this
        rw [hf] at L
        simp only [Option.getD_none, Option.isSome_none] at L
        have e : s.wh - s.rd = (k : Int) := by omega
        rw [e]
        clear hf
        go_wp2_with fail
        go_region
        go_wp2_with fail
        go_ret
        exact ⟨by rw [e]; rfl, d + 1, rfl⟩
    · have e : s.wh - s.rd = (k : Int) := by omega
      have ek : (k : Int) = s.T.length := by omega
      obtain rfl : k = s.T.length := by omega
      rw [e]
      go_wp2_with fail
      go_ret
      exact ⟨rfl, d, rfl⟩
end Go.Proofs.YtdafeokjedmnkaaDoor
