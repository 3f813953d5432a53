/-
  A quilt: Take.
-/
import Derived.Test.YtdafeokjedmnkaaDoorQuiltK
namespace Go.Proofs.YtdafeokjedmnkaaDoor
open Go.RowKit Go.Maps
set_option linter.unusedVariables false
set_option linter.unusedSimpArgs false
/-- The next k bytes. -/
def tk (f : Int → Option Int) (rd : Int) (k : Nat) : List Int := (List.range k).map fun i : Nat => (f (rd + (i : Int))).getD 0
theorem tk_len (f : Int → Option Int) (rd : Int) (k : Nat) : (tk f rd k).length = k := by simp [tk]
theorem tk_add (f : Int → Option Int) (rd : Int) (k m : Nat) : tk f rd (k + m) = tk f rd k ++ tk f (rd + k) m := by
  unfold tk
  rw [List.range_add, List.map_append, List.map_map]
  congr 1
  apply List.map_congr_left
  intro i hi
  simp only [Function.comp]
  rw [show rd + ((k + i : Nat) : Int) = rd + (k : Int) + (i : Int) by omega]
theorem tk_get (f : Int → Option Int) (rd : Int) (k i : Nat) (h : i < k) : (tk f rd k)[i]? = some ((f (rd + (i : Int))).getD 0) := by
  unfold tk
  simp [h]
theorem tk_bytes {f : Int → Option Int} {T : List Int} (h : Came f T) (rd : Int) (k : Nat) : Bytes (tk f rd k) := by
  intro x hx
  unfold tk at hx
  simp only [List.mem_map] at hx
  obtain ⟨i, _, rfl⟩ := hx
  cases hf : f (rd + (i : Int)) with
  | none => simp
  | some b => exact h.by_ _ b hf
theorem made_u8q (n : Nat) : madeCells (Value.int .u8 0).cells n = (U8 (List.replicate n 0)).toArray := by
  have e : (Value.int .u8 0).cells = #[Value.int .u8 0] := rfl
  rw [e]
  apply Array.ext
  · simp [size_madeCells, U8]
  · intro i h1 h2
    simp [madeCells, U8, Nat.mod_one]
theorem mk_0 (n : Nat) (hn : n ≤ 1000000000) (W : World) : (Instr.makeSlice 29 (.int .i64 0) (.int .i64 (n : Int))).run Tryd.prog W = .ok (.slice (some ⟨W.heap.size, 0, none⟩) 0 n) (W.alloc (.cells (U8 (List.replicate n 0)).toArray 5)) := by
  obtain ⟨i0, hi0, hz0, hz1, hz2⟩ := info_parts info_u8
  have h := run_make (P := Tryd.prog) W 29 5 i0 (.int .u8 0) Tryd.underlying29 hi0 hz0 .i64 .i64 0 n (by omega) (by omega) (by rw [hz2]; omega) (by omega)
  rw [Int.toNat_natCast, hz1, Nat.mul_one] at h
  rw [← made_u8q]
  exact h
theorem own_made (w : World) (n : Nat) (hn : n ≤ 1000000000) : Own (w.alloc (.cells (U8 (List.replicate n 0)).toArray 5)) w.heap.size (some ⟨w.heap.size, 0, none⟩) n [] :=
  ⟨by simp [U8], .inr ⟨w.heap.size, n, _, rfl, Nat.le_refl _, Blk.new w _ _, by simp, by unfold maxLen; omega, by simp [U8], by simp [U8]⟩⟩
theorem arr64_len : Tryd.prog.arrayLen 65 = 64 := by kernel_rfl
theorem arr64_elem : Tryd.prog.elem 65 = 5 := by kernel_rfl
theorem slice_arr (g o lo hi : Nat) (kd kd' : IntKind) (z z' : Int) (hz : z = lo) (hz' : z' = hi) (h1 : lo ≤ hi) (h2 : hi ≤ 64) (h3 : lo < 64) (w : World) :
    (Instr.sliceAt 65 (.pointer (some ⟨g, o, none⟩)) (some (.int kd z)) (some (.int kd' z')) none).run Tryd.prog w = .ok (.slice (some ⟨g, o + lo, none⟩) (hi - lo) (64 - lo)) w := by
  subst hz; subst hz'
  rw [run_sliceAt_array_lh (P := Tryd.prog) w 65 ⟨g, o, none⟩ (by rw [arr64_len, arr64_elem]; exact Tryd.underlying65) kd kd' (lo : Int) (hi : Int) (by omega) (by omega) (by rw [arr64_len]; omega), arr64_elem, run_sizeOf_u8, arr64_len]
  simp only [Result.andThen_ok, slicedAt, Int.toNat_natCast]
  rw [if_neg (by omega)]
  simp only [Nat.mul_one, Addr.add]
  by_cases h : lo = 0
  · subst h; simp
  · simp [h]
/-- A patch's bytes, as a row that is read. -/
theorem PatchIs.rd {w : World} {g : Nat} {c : Nat → Option Int} {m H : Nat} {bs : List Int} (h : PatchIs w g c m H bs) {f : Int → Option Int} {x : Int} {at_ k : Nat} (hk : at_ + k ≤ 64) (hc : ∀ i, i < k → c (at_ + i) = f (x + (i : Int))) (hf : ∀ i : Nat, i < k → f (x + (i : Int)) ≠ none) : Rd w (some ⟨g, 1 + at_, none⟩) (tk f x k) := by
  refine ⟨by rw [U8_length]; simp, fun _ => ⟨_, rfl, h.lt_, fun j u hu => ?_⟩⟩
  have hj : j < k := by
    rcases Nat.lt_or_ge j k with h1 | h1
    · exact h1
    · rw [List.getElem?_eq_none (by rw [U8_length, tk_len]; exact h1)] at hu
      cases hu
  unfold U8 at hu
  rw [List.getElem?_map, tk_get f x k j hj] at hu
  simp only [Option.map_some, Option.some.injEq] at hu
  subst hu
  have h1 := hc j hj
  have h2 := h.is (at_ + j) (by omega)
  have h3 := h.cb (i := at_ + j) (by omega)
  rw [show (⟨g, 1 + at_, none⟩ : Addr).add j = ⟨g, 1 + (at_ + j), none⟩ by unfold Addr.add; by_cases hj0 : j = 0 <;> simp [hj0]; omega, h3]
  have h4 := hf j hj
  rw [← h1, h2] at h4
  split at h2
  · rw [← h1, h2]
    rfl
  · rename_i h5
    rw [if_neg h5] at h4
    exact absurd rfl h4
theorem PatAt.less {w : World} {base B n : Nat} {pt : Int → Option Nat} {f : Int → Option Int} {rd rd' : Int} (h : PatAt w base B n pt f rd) (hr : rd ≤ rd') : PatAt w base B n pt f rd' :=
  ⟨h.map, h.bge, (fun j g hj => by
    obtain ⟨h1, h2, c, m, H, bs, h3, h4⟩ := h.ent j g hj
    exact ⟨h1, h2, c, m, H, bs, h3, fun i hi hx => h4 i hi (by omega)⟩), h.inj, fun x hx hf => h.has x (by omega) hf⟩
theorem PatAt.del {w w' : World} {base B n : Nat} {pt : Int → Option Nat} {f : Int → Option Int} {rd j : Int} (h : PatAt w base B n pt f rd) (hr : 64 * (j + 1) ≤ rd) (hm : MapU w' B n (fun y => if y = j then none else pt y)) (hg : w.grownBy w' (some B)) : PatAt w' base B n (fun y => if y = j then none else pt y) f rd := by
  refine ⟨hm, h.bge, fun j' g hj => ?_, fun i i' g hi hi' => ?_, fun x hx hf => ?_⟩
  · by_cases hjj : j' = j
    · rw [if_pos hjj] at hj
      cases hj
    · rw [if_neg hjj] at hj
      obtain ⟨h1, h2, c, m, H, bs, h3, h4⟩ := h.ent j' g hj
      exact ⟨h1, h2, c, m, H, bs, h3.keep (h3.blk.grown hg (by intro e; injection e with e; exact h.map.ne h3.blk e)), h4⟩
  · by_cases hij : i = j
    · rw [if_pos hij] at hi
      cases hi
    · rw [if_neg hij] at hi
      by_cases hij' : i' = j
      · rw [if_pos hij'] at hi'
        cases hi'
      · rw [if_neg hij'] at hi'
        exact h.inj i i' g hi hi'
  · rw [if_neg (by omega)]
    exact h.has x hx hf
theorem StQ.grown {w W W' : World} {base g n : Nat} {M : Value} {f : Int → Option Int} {rd wh hi hd : Int} {en : Bool} {row : Option Nat} (h : StQ w base g n M f rd wh hi hd en W) (hg : W.grownBy W' row) (hb : Below base W W') (hrow : ∀ r, row = some r → w.heap.size ≤ r ∧ ∃ cs, Blk W r 5 cs) : StQ w base g n M f rd wh hi hd en W' := by
  have hne : ∀ q T cs, Blk W q T cs → T ≠ 5 → some q ≠ row := fun q T cs hbq hT e => by
    obtain ⟨_, cs', hb'⟩ := hrow q e.symm
    exact Blk.ne_ hbq hb' hT rfl
  refine ⟨h.q.grown hg (hne _ _ _ h.q (by decide)), ?_, ⟨fun q t cs fr h1 h2 h3 => (h.keep.1 q t cs fr h1 h2 h3).grown hg (fun e => ?_), fun q es ck h1 h2 => ?_⟩, h.below.trans hb⟩
  · rcases h.pat with h2 | ⟨B, pt, h2, h3⟩
    · exact .inl h2
    · refine .inr ⟨B, pt, h2, h3.grown hg (fun e => ?_) (fun j gp hj => ?_)⟩
      · obtain ⟨_, cs', hb'⟩ := hrow B e.symm
        exact h3.map.ne hb' rfl
      · obtain ⟨cs, hbq⟩ := h3.block hj
        exact hne _ _ _ hbq (by decide)
  · obtain ⟨h4, _⟩ := hrow q e.symm
    have := h3.lt
    omega
  · obtain ⟨h3, h4⟩ := h.keep.2 q es ck h1 h2
    refine ⟨(hg.block q (lt_of_heap h3) (fun e => ?_)).trans h3, ?_⟩
    · obtain ⟨_, cs, hb'⟩ := hrow q e.symm
      rw [show W.heap[q]? = _ from hb'] at h3
      cases h3
    · rw [World.cell?_of_block (w := W) (a := ⟨g, 0, none⟩) (hg.block g h.q.lt (hne _ _ _ h.q (by decide)))]
      exact h4
theorem own_row {w : World} {base c : Nat} {A : Option Addr} {l : List Int} (h : Own w base A c l) {r : Nat} (hr : (Value.slice A l.length c).ownBlock = some r) : base ≤ r ∧ ∃ cs, Blk w r 5 cs := by
  rcases OwnV.row_is (show OwnV w base 5 1 A c l.length (U8 l) from h) with ⟨rfl, _⟩ | ⟨g, cur, rfl, hb, hbl, _⟩
  · cases hr
  · simp [Value.ownBlock] at hr
    subst hr
    exact ⟨hb, cur, hbl⟩
theorem StQ.read {w W : World} {base g n : Nat} {M : Value} {f : Int → Option Int} {rd wh hi hd : Int} {en : Bool} (h : StQ w base g n M f rd wh hi hd en W) (hg : base ≤ g) (x : Int) (hx : rd ≤ x) : StQ w base g n M f x wh hi hd en (W.setCell ⟨g, 1, none⟩ (.int .u64 x)) := by
  refine ⟨Blk.set_ h.q 1 _, ?_, h.keep.trans (keepT_set h.q 1 _ (fun h => by cases h)), h.below.setCell (p := ⟨g, 1, none⟩) hg _⟩
  rcases h.pat with ⟨h1, h2⟩ | ⟨B, pt, h1, h2⟩
  · exact .inl ⟨h1, fun y hy => h2 y (by omega)⟩
  · refine .inr ⟨B, pt, h1, (h2.less hx).grown (gb_set (gb_refl _ _) (p := ⟨g, 1, none⟩) rfl _) (by intro e; injection e with e; exact h2.map.ne h.q e.symm) (fun j gp hj e => ?_)⟩
    injection e with e
    obtain ⟨cs, hb⟩ := h2.block hj
    exact Blk.ne_ hb h.q (by decide) e
theorem StQ.none_ {w W : World} {base g n : Nat} {M : Value} {f : Int → Option Int} {rd wh hi hd : Int} {en : Bool} (h : StQ w base g n M f rd wh hi hd en W) (hg : base ≤ g) (hx : ∀ x, rd ≤ x → f x = none) : StQ w base g n (.map none) f rd wh hi hd en (W.setCell ⟨g, 0, none⟩ (.map none)) :=
  ⟨Blk.set_ h.q 0 _, .inl ⟨rfl, hx⟩, h.keep.trans (keepT_set h.q 0 _ (fun _ q _ e => by cases e)), h.below.setCell (p := ⟨g, 0, none⟩) hg _⟩
theorem StQ.qlt {w W : World} {base g n : Nat} {M : Value} {f : Int → Option Int} {T : List Int} {rd wh hi : Int} {en : Bool} (h : StQ w base g n M f rd wh hi (T.length - rd) en W) (ok : QOk ⟨f, T, rd, wh, hi, en⟩) (hg : base ≤ g) : Qlt W base g n ⟨f, T, rd, wh, hi, en⟩ := ⟨⟨M, h.q, h.pat⟩, ok, hg⟩
/-- What is left when so many were taken. -/
def qTake (s : QS) (N : Nat) : QS := ⟨s.f, s.T, s.rd + N, s.wh, s.hi, s.en⟩
theorem qTake_ok {s : QS} (h : QOk s) {N : Nat} (hN : s.rd + N ≤ s.wh) : QOk (qTake s N) := ⟨h.came, h.top, h.whl, h.stop, by have := h.r0; show 0 ≤ s.rd + (N : Int); omega, hN, h.w1, h.h1⟩
def takeN (s : QS) (most : Int) : Nat := (min (max most 0) (s.wh - s.rd)).toNat

def rdOf (w : World) (g : Nat) : Int := match w.cell? ⟨g, 1, none⟩ with | some (.int _ x) => x | _ => 0
theorem rdOf_is {w W : World} {base g n : Nat} {M : Value} {f : Int → Option Int} {rd wh hi hd : Int} {en : Bool} (h : StQ w base g n M f rd wh hi hd en W) : rdOf W g = rd := by
  have c1 := h.q.cell 1
  simp [QV] at c1
  unfold rdOf
  rw [c1]
theorem StQ.del {w W W' : World} {base g B n : Nat} {pt : Int → Option Nat} {f : Int → Option Int} {rd wh hi hd j : Int} {en : Bool} (h : StQ w base g n (.map (some B)) f rd wh hi hd en W) (hp : PatAt W base B n pt f rd) (hr : 64 * (j + 1) ≤ rd) (hm : MapU W' B n (fun y => if y = j then none else pt y)) (hg : W.grownBy W' (some B)) (hb : base ≤ w.heap.size) : StQ w base g n (.map (some B)) f rd wh hi hd en W' :=
  ⟨h.q.grown hg (by intro e; injection e with e; exact hp.map.ne h.q e), .inr ⟨B, _, rfl, hp.del hr hm hg⟩, h.keep.trans (keepT_gb h.q hp.map hg), below_gb h.below hg hp.bge (Nat.le_trans hb h.below.size)⟩
theorem own_not {w : World} {base c n : Nat} {A : Option Addr} {l : List Int} (h : Own w base A c l) {g : Nat} {cs : Array Value} {t : TypeId} (hb : Blk w g t cs) (ht : t ≠ 5) : some g ≠ (Value.slice A n c).ownBlock := by
  intro e
  rw [ownBlock_len A n l.length c c] at e
  obtain ⟨_, cs', hb'⟩ := own_row h e.symm
  exact Blk.ne_ hb hb' ht rfl
theorem own_notM {w : World} {base c n m B : Nat} {A : Option Addr} {l : List Int} {pt : Int → Option Nat} (h : Own w base A c l) (hb : MapU w B m pt) : some B ≠ (Value.slice A n c).ownBlock := by
  intro e
  rw [ownBlock_len A n l.length c c] at e
  obtain ⟨_, cs', hb'⟩ := own_row h e.symm
  exact hb.ne hb' rfl
theorem Take_after {w W w5 : World} {base g B n c c5 : Nat} {pt : Int → Option Nat} {f : Int → Option Int} {x wh hi hd : Int} {en : Bool} {A A5 : Option Addr} {P Y : List Int} (Q1 : StQ w base g n (.map (some B)) f x wh hi hd en W) (PA : PatAt W base B n pt f x) (OW : Own W w.heap.size A c P)
    (g5 : W.grownBy w5 (Value.slice A P.length c).ownBlock) (b5 : Below w.heap.size W w5) (o5 : Own w5 w.heap.size A5 c5 Y) (hbase : base ≤ w.heap.size) (hg : base ≤ g) (y : Int) (hy : x ≤ y) :
    StQ w base g n (.map (some B)) f x wh hi hd en w5 ∧ StQ w base g n (.map (some B)) f y wh hi hd en (w5.setCell ⟨g, 1, none⟩ (.int .u64 y)) ∧ PatAt (w5.setCell ⟨g, 1, none⟩ (.int .u64 y)) base B n pt f y ∧ Own (w5.setCell ⟨g, 1, none⟩ (.int .u64 y)) w.heap.size A5 c5 Y := by
  have Q5 := Q1.grown g5 (b5.mono hbase) (fun r e => own_row OW e)
  have P5 := PA.grown g5 (own_notM OW PA.map) (fun j gq hj => by
    obtain ⟨cs, hb⟩ := PA.block hj
    exact own_not OW hb (by decide))
  refine ⟨Q5, Q5.read hg y hy, (P5.less hy).grown (gb_set (gb_refl _ _) (p := ⟨g, 1, none⟩) rfl _) (by intro e; injection e with e; exact P5.map.ne Q5.q e.symm) (fun j gp hj e => ?_), OwnV.grown o5 (gb_set (gb_refl _ _) (p := ⟨g, 1, none⟩) rfl _) (fun q cur hq e => ?_)⟩
  · injection e with e
    obtain ⟨cs, hb⟩ := P5.block hj
    exact Blk.ne_ hb Q5.q (by decide) e
  · injection e with e
    exact Blk.ne_ Q5.q hq (by decide) e
set_option maxHeartbeats 3200000 in
theorem Take_some (base g n : Nat) (s : QS) (most : Int) (N : Nat) (w : World) (h : Qlt w base g n s) (hm : (Lit.int .i64 most).wf = true) (hbase : base ≤ w.heap.size) (hT : s.T.length ≤ 1000000) (hN : (N : Int) = min (max most 0) (s.wh - s.rd)) (hN0 : N ≠ 0) :
    Calls Tryd.prog 15 #[.pointer (some ⟨g, 0, none⟩), .int .i64 most] w fun r w' => (∃ A c, r = .returned (.tuple #[.slice A N c, .bool (s.en && decide (s.rd + N = s.hi))]) ∧ Own w' w.heap.size A c (tk s.f s.rd N)) ∧ Qlt w' base g n (qTake s N) ∧ KeepT w w' g ∧ Below base w w' := by
  have ok := h.ok
  have hwl : s.wh ≤ s.T.length := ok.came.len ok.whl
  have r0 := ok.r0
  have r1 := ok.r1
  have hwh := ok.w1
  have hh1 := ok.h1
  have hN6 : N ≤ 1000000 := by omega
  have hNw : s.rd + N ≤ s.wh := by omega
  have HRD := Lib.hid (fun W hh => Ready_any base g n s W hh)
  have HDN := Lib.hid (fun W hh => Done_any base g n (qTake s N) W hh)
  have H := Lib.hid h
  have HOK := Lib.hid ok
  obtain ⟨M0, k1, k2⟩ := h.q
  have hgb := h.hg
  obtain ⟨L, hL⟩ : ∃ L, L = s.wh - s.rd := ⟨_, rfl⟩
  rw [← hL] at HRD hN
  have hmp : 0 < most := by omega
  have hmp' : ¬ most < 0 := by omega
  have N1 : (if most < L then most else L) = (N : Int) := by split <;> omega
  have N2 : (if L < most then L else most) = (N : Int) := by split <;> omega
  have hNb : ((N : Int) == 0) = false := by rw [beq_eq_false_iff_ne]; omega
  have MK := mk_0 N (by omega)
  have hB : ∃ B, M0 = .map (some B) := by
    rcases k2 with ⟨_, hno⟩ | ⟨B, pt, hM, _⟩
    · exact absurd (hno s.rd (Int.le_refl _)) (ok.whl s.rd r0 (by omega))
    · exact ⟨B, hM⟩
  obtain ⟨B, rfl⟩ := hB
  have S0 := Lib.hid (show StQ w base g n (.map (some B)) s.f s.rd s.wh s.hi (s.T.length - s.rd) s.en w from ⟨k1, k2, KeepT.refl _ _, Below.refl _ _⟩)
  clear hL hN h ok k1 k2 hm
  go_enter Tryd.func15, Tryd.ntmps15
  go_wp2_with fail
  refine (HRD.out _ H.out).mono ?_
  rintro r w2 ⟨rfl, kk, hw2⟩
  have S2 := Lib.hid (show StQ w base g n (.map (some B)) s.f s.rd s.wh s.hi (s.T.length - s.rd) s.en w2 by rw [hw2]; exact S0.out.drewN kk)
  have hs2 : w2.heap.size = w.heap.size := by rw [hw2]; rfl
  clear hw2 S0 HRD
  go_wp2_with fail
  have S3 := Lib.hid (S2.out.grown (World.grownBy_alloc w2 (.cells (U8 (List.replicate N 0)).toArray 5) none) ((Below.refl _ _).alloc (by omega) _) (fun r e => by cases e))
  have O3 := Lib.hid (own_made w2 N (by omega))
  rw [hs2] at O3
  go_loopw [7] (fun q wr => ∃ (k : Nat) (A : Option Addr) (c : Nat), k ≤ N ∧ q = .slice A k c ∧ Hid (Own wr w.heap.size A c (tk s.f s.rd k)) ∧ Hid (StQ w base g n (.map (some B)) s.f (s.rd + k) s.wh s.hi (s.T.length - s.rd) s.en wr)) (fun _ wr => (s.rd + N - rdOf wr g).toNat)
  case atStart => exact ⟨0, some ⟨w.heap.size, 0, none⟩, N, by omega, rfl, O3, by simpa using S3⟩
  case round =>
    obtain ⟨k, A, c, hk, rfl, O, Q⟩ := hrel
    clear S3 O3 S2
    by_cases hlt : k < N
    · obtain ⟨P, hP⟩ : ∃ P, P = tk s.f s.rd k := ⟨_, rfl⟩
      have hPl : P.length = k := by rw [hP, tk_len]
      rw [← hP] at O
      subst hPl
      obtain ⟨x, hx⟩ : ∃ x, x = s.rd + (P.length : Int) := ⟨_, rfl⟩
      rw [← hx] at Q
      have hx0 : 0 ≤ x := by omega
      have hx1 : x < s.wh := by omega
      have hfx : ∀ i : Nat, (i : Int) < s.wh - x → s.f (x + (i : Int)) ≠ none := fun i hi => HOK.out.whl _ (by omega) (by omega)
      obtain ⟨at_, hat⟩ : ∃ at_ : Nat, (at_ : Int) = x % 64 := ⟨(x % 64).toNat, by omega⟩
      have hat64 : at_ < 64 := by omega
      obtain ⟨to, hto⟩ : ∃ to : Nat, to = min (at_ + N - P.length) 64 := ⟨_, rfl⟩
      obtain ⟨Z, hZ⟩ : ∃ Z, Z = tk s.f x (to - at_) := ⟨_, rfl⟩
      have hZl : Z.length = to - at_ := by rw [hZ, tk_len]
      have hto1 : to ≤ 64 := by omega
      have hto2 : at_ + Z.length = to := by omega
      have hto3 : P.length + Z.length ≤ N := by omega
      have hZ0 : 1 ≤ Z.length := by omega
      obtain ⟨S, hS⟩ : ∃ S, S = (at_ : Int) + (N : Int) := ⟨_, rfl⟩
      obtain ⟨R, hR⟩ : ∃ R, R = S - (P.length : Int) := ⟨_, rfl⟩
      have wat : IntKind.i64.wrap (x % 64) = (at_ : Int) := by rw [← hat]; exact IntWalk.i64_in _ (by omega)
      have wj : IntKind.u64.wrap (x.tdiv 64) = x / 64 := by rw [Int.tdiv_eq_ediv_of_nonneg hx0]; exact IntWalk.u64_in _ (by omega)
      have wS : IntKind.i64.wrap ((at_ : Int) + (N : Int)) = S := by rw [hS]; exact IntWalk.i64_in _ (by omega)
      have wR : IntKind.i64.wrap (S - (P.length : Int)) = R := by rw [hR]; exact IntWalk.i64_in _ (by omega)
      have Z1 : (if R < 64 then R else 64) = (to : Int) := by split <;> omega
      have Z2 : (if 64 < R then 64 else R) = (to : Int) := by split <;> omega
      have wm : IntKind.i64.wrap ((to : Int) - (at_ : Int)) = (Z.length : Int) := by rw [show (to : Int) - (at_ : Int) = (Z.length : Int) by omega]; exact IntWalk.i64_in _ (by omega)
      have wm2 : IntKind.u64.wrap (Z.length : Int) = (Z.length : Int) := IntWalk.u64_in _ (by omega)
      have wx : IntKind.u64.wrap (x + (Z.length : Int)) = x + (Z.length : Int) := IntWalk.u64_in _ (by omega)
      have hjw : (Lit.int .u64 (x / 64)).wf = true := WalkArith.wf_u64 (by omega)
      rcases Q.out.pat with ⟨h1, _⟩ | ⟨B', pt, h1, hpat⟩
      · cases h1
      obtain rfl : B = B' := by injection h1 with h1; injection h1
      rcases hpt : pt (x / 64) with _ | gp
      · exact absurd hpt (hpat.has x (Int.le_refl _) (by simpa using hfx 0 (by omega)))
      obtain ⟨j0, hb0, cc, mm, HH, bs, hp, hc⟩ := hpat.ent (x / 64) gp hpt
      have L1 := (hpat.map.drewN 1).look hjw
      rw [hpt] at L1
      simp only [ptrP] at L1
      have L1 : (Instr.lookup 61 (.map (some B)) (.int .u64 (x / 64)) false).run Tryd.prog wr.drew = .ok (.pointer (some ⟨gp, 0, none⟩)) wr.drew := L1
      have RZ := Lib.hid (show Rd wr.drew (some ⟨gp, 1 + at_, none⟩) Z by
        rw [hZ]
        exact (hp.keep (w' := wr.drew) hp.blk).rd (by omega) (fun i hi => by
          rw [hc (at_ + i) (by omega) (by omega)]
          congr 1
          omega) (fun i hi => hfx i (by omega)))
      have SA := fun W => slice_arr gp 1 at_ to .i64 .i64 (at_ : Int) (to : Int) rfl rfl (by omega) hto1 hat64 W
      obtain ⟨cap, hcap⟩ : ∃ cap, cap = 64 - at_ := ⟨_, rfl⟩
      rw [← hcap, ← hZl] at SA
      have Q1 := Lib.hid (show StQ w base g n (.map (some B)) s.f x s.wh s.hi (s.T.length - s.rd) s.en wr.drew from Q.out.drewN 1)
      have PA1 := Lib.hid (show PatAt wr.drew base B n pt s.f x from hpat.drewN 1)
      have OW1 := Lib.hid (show Own wr.drew w.heap.size A c P from O.out)
      have c1 := Q.out.q.cell 1
      have c1' := Q1.out.q.cell 1
      have c0' := Q1.out.q.cell 0
      simp [QV] at c1 c1' c0'
      have hle : w.heap.size ≤ wr.drew.heap.size := Q1.out.below.size
      have hmeas := rdOf_is Q.out
      have HX := Lib.hid hx
      have HP := Lib.hid hP
      have HZ := Lib.hid hZ
      have HZL := Lib.hid hZl
      obtain ⟨Y, hY⟩ : ∃ Y, Y = P ++ Z := ⟨_, rfl⟩
      have hYl : Y.length = P.length + Z.length := by rw [hY, List.length_append]
      have HY := Lib.hid hY
      have HYL := Lib.hid hYl
      have hPle : P.length ≤ 1000000 := by omega
      have hZle : Z.length ≤ 64 := by omega
      have HTK := Lib.hid (show tk s.f s.rd Y.length = Y by
        have hz : tk s.f x Z.length = Z := by rw [hZl]; exact hZ.symm
        rw [hYl, tk_add, ← hx, hz, ← hP, ← hY])
      have HRT := Lib.hid (show to ≠ 64 → R = (to : Int) from fun h => by omega)
      have HJ := Lib.hid (show to = 64 → 64 * (x / 64 + 1) ≤ x + (Z.length : Int) from fun h => by omega)
      clear hpat hpt hp hc hb0 hx hP hZ hZl hY hYl hS hR hat hto hfx h1 O Q hcap
      by_cases h64 : to = 64
      · have hbt : ((to : Int) == 64) = true := by rw [h64]; rfl
        rw [h64] at SA wm
        have SA : ∀ W, (Instr.sliceAt 65 (.pointer (some ⟨gp, 1, none⟩)) (some (.int .i64 (at_ : Int))) (some (.int .i64 64)) none).run Tryd.prog W = .ok (.slice (some ⟨gp, 1 + at_, none⟩) Z.length cap) W := SA
        have wm : IntKind.i64.wrap (64 - (at_ : Int)) = (Z.length : Int) := wm
        go_wp2_with fail
        go_region
        go_wp2_with (first
          | (at_builtin; refine wpList_appX2 rfl (.tmp 44) (.tmp 55) rfl w.heap.size (l := P) (news := Z) Y HY.out rfl rfl OW1.out RZ.out (by omega) hle ?_; intro A5 c5 w5 o5 g5 b5 r5; obtain ⟨q5, q9, p9, o9⟩ := Take_after Q1.out PA1.out OW1.out g5 b5 o5 hbase hgb (x + (Z.length : Int)) (by omega); have c5a := q5.q.cell 1; have c5b := q5.q.cell 0; have f5 := q5.q.frozen 1; simp [QV] at c5a c5b; have Q9 := Lib.hid q9; have P9 := Lib.hid p9; have O9 := Lib.hid o9; obtain ⟨w10, hdel, m10, g10⟩ := p9.map.drop hjw 0; clear q9 p9 o9 o5 g5 b5 r5 q5))
        have Q10 := Lib.hid (StQ.del Q9.out P9.out (HJ.out h64) m10 g10 hbase)
        have O10 := Lib.hid (show Own w10 w.heap.size A5 c5 Y from OwnV.grown O9.out g10 (fun q cur hq e => by injection e with e; exact P9.out.map.ne hq e.symm))
        go_roundw
        case rel =>
          refine ⟨Y.length, A5, c5, by rw [HYL.out]; exact hto3, rfl, ?_, ?_⟩
          · rw [HTK.out]
            exact O10
          · rw [HYL.out, show s.rd + ((P.length + Z.length : Nat) : Int) = x + (Z.length : Int) by rw [HX.out]; omega]
            exact Q10
        case measure =>
          have e1 := rdOf_is Q10.out
          have e2 := HX.out
          rw [e1, hmeas]
          omega
      · have hbf : ((to : Int) == 64) = false := by rw [beq_eq_false_iff_ne]; omega
        obtain rfl : R = (to : Int) := HRT.out h64
        go_wp2_with fail
        go_region
        go_wp2_with (first
          | (at_builtin; refine wpList_appX2 rfl (.tmp 44) (.tmp 55) rfl w.heap.size (l := P) (news := Z) Y HY.out rfl rfl OW1.out RZ.out (by omega) hle ?_; intro A5 c5 w5 o5 g5 b5 r5; obtain ⟨q5, q9, p9, o9⟩ := Take_after Q1.out PA1.out OW1.out g5 b5 o5 hbase hgb (x + (Z.length : Int)) (by omega); have c5a := q5.q.cell 1; have c5b := q5.q.cell 0; have f5 := q5.q.frozen 1; simp [QV] at c5a c5b; have Q9 := Lib.hid q9; have P9 := Lib.hid p9; have O9 := Lib.hid o9; obtain ⟨w10, hdel, m10, g10⟩ := p9.map.drop hjw 0; clear q9 p9 o9 o5 g5 b5 r5 q5))
        go_roundw
        case rel =>
          refine ⟨Y.length, A5, c5, by rw [HYL.out]; exact hto3, rfl, ?_, ?_⟩
          · rw [HTK.out]
            exact O9
          · rw [HYL.out, show s.rd + ((P.length + Z.length : Nat) : Int) = x + (Z.length : Int) by rw [HX.out]; omega]
            exact Q9
        case measure =>
          have e1 := rdOf_is Q9.out
          have e2 := HX.out
          rw [e1, hmeas]
          omega
    · obtain rfl : N = k := by omega
      obtain ⟨D, hD⟩ : ∃ D, D = (s.T.length : Int) - s.rd := ⟨_, rfl⟩
      obtain ⟨E, hE⟩ : ∃ E, E = (s.T.length : Int) - (s.rd + (N : Int)) := ⟨_, rfl⟩
      have wE : IntKind.i64.wrap (D - (N : Int)) = E := by rw [show D - (N : Int) = E by omega]; exact IntWalk.i64_in _ (by omega)
      have c4 := Q.out.q.cell 4
      have f4 := Q.out.q.frozen 4
      simp [QV] at c4
      rw [← hD] at c4
      have Q4 := Q.out.held hgb E
      have O4 : Own (wr.setCell ⟨g, 4, none⟩ (.int .i64 E)) w.heap.size A c (tk s.f s.rd N) := OwnV.grown O.out (gb_set (gb_refl _ _) (p := ⟨g, 4, none⟩) rfl _) (fun q cur hq e => by injection e with e; exact Blk.ne_ Q.out.q hq (by decide) e)
      have hqt : QOk (qTake s N) := qTake_ok HOK.out hNw
      by_cases hz : E = 0
      · have hzb : (E == 0) = true := by rw [hz]; rfl
        have f0 := Q.out.q.frozen 0
        have c0 := Q.out.q.cell 0
        simp [QV] at c0
        have Q5 := Q4.none_ hgb (fun x hx => by
          have hle := HOK.out.came.len HOK.out.whl
          exact HOK.out.came.all (r := s.rd + (N : Int)) (by omega) (fun y h1 h2 => HOK.out.whl y h1 (by omega)) (by omega) hx)
        have O5 : Own ((wr.setCell ⟨g, 4, none⟩ (.int .i64 E)).setCell ⟨g, 0, none⟩ (.map none)) w.heap.size A c (tk s.f s.rd N) := OwnV.grown O4 (gb_set (gb_refl _ _) (p := ⟨g, 0, none⟩) rfl _) (fun q cur hq e => by injection e with e; exact Blk.ne_ Q4.q hq (by decide) e)
        rw [hE] at Q5
        have HQ := Lib.hid (show Qlt _ base g n (qTake s N) from Q5.qlt hqt hgb)
        have HO := Lib.hid O5
        have HK := Lib.hid (And.intro Q5.keep Q5.below)
        rw [← hE] at HQ HK
        clear Q5 Q4 O5 O4 Q O hqt hE hD hlt hk
        subst hz
        go_wp2_with fail
        refine (HDN.out _ HQ.out).mono ?_
        rintro r w9 ⟨rfl, k9, rfl⟩
        go_wp2_with fail
        exact bodyPost_ret (results_tmp2 rfl _ _ _) rfl ⟨⟨A, c, rfl, HO.out⟩, HQ.out.drewN k9, HK.out.1, below_drewN HK.out.2 k9⟩
      · have hzb : (E == 0) = false := by rw [beq_eq_false_iff_ne]; exact hz
        rw [hE] at Q4
        have HQ := Lib.hid (show Qlt _ base g n (qTake s N) from Q4.qlt hqt hgb)
        have HO := Lib.hid O4
        have HK := Lib.hid (And.intro Q4.keep Q4.below)
        rw [← hE] at HQ HK
        clear Q4 O4 Q O hqt hE hD hlt hk
        go_wp2_with fail
        refine (HDN.out _ HQ.out).mono ?_
        rintro r w9 ⟨rfl, k9, rfl⟩
        go_wp2_with fail
        exact bodyPost_ret (results_tmp2 rfl _ _ _) rfl ⟨⟨A, c, rfl, HO.out⟩, HQ.out.drewN k9, HK.out.1, below_drewN HK.out.2 k9⟩
/-- .. of nothing. -/
theorem Take_none (base g n : Nat) (s : QS) (most : Int) (w : World) (h : Qlt w base g n s) (hbase : base ≤ w.heap.size) (hT : s.T.length ≤ 1000000) (hN : min (max most 0) (s.wh - s.rd) = 0) :
    Calls Tryd.prog 15 #[.pointer (some ⟨g, 0, none⟩), .int .i64 most] w fun r w' => r = .returned (.tuple #[.slice none 0 0, .bool (s.en && decide (s.rd = s.hi))]) ∧ ∃ k, w' = w.drewN k := by
  have ok := h.ok
  have r1 := ok.r1
  have HRD := Lib.hid (Ready_any base g n s w h)
  have HDN := Lib.hid (fun W hh => Done_any base g n s W hh)
  have H := Lib.hid h
  obtain ⟨L, hL⟩ : ∃ L, L = s.wh - s.rd := ⟨_, rfl⟩
  rw [← hL] at HRD hN
  have hL0 : 0 ≤ L := by omega
  clear h ok hL
  rcases Int.lt_or_le 0 most with hmp | hmp
  · have hl0 : L = 0 := by omega
    subst hl0
    have hmp' : ¬ most < 0 := by omega
    have N1 : (if most < 0 then most else 0) = 0 := by split <;> omega
    have N2 : (if 0 < most then 0 else most) = 0 := by split <;> omega
    go_enter Tryd.func15, Tryd.ntmps15
    go_wp2_with fail
    refine HRD.out.mono ?_
    rintro r w2 ⟨rfl, kk, rfl⟩
    go_wp2_with fail
    refine (HDN.out _ (H.out.drewN kk)).mono ?_
    rintro r w2 ⟨rfl, k2, rfl⟩
    go_wp2_with fail
    exact bodyPost_ret (results_tmp2 rfl _ _ _) rfl ⟨rfl, kk + k2, rfl⟩
  · have N1 : (if 0 < L then 0 else L) = 0 := by split <;> omega
    have N2 : (if L < 0 then L else 0) = 0 := by split <;> omega
    rcases Int.lt_or_eq_of_le hmp with hm1 | rfl
    all_goals (
      go_enter Tryd.func15, Tryd.ntmps15
      go_wp2_with fail
      refine HRD.out.mono ?_
      rintro r w2 ⟨rfl, kk, rfl⟩
      go_wp2_with fail
      refine (HDN.out _ (H.out.drewN kk)).mono ?_
      rintro r w2 ⟨rfl, k2, rfl⟩
      go_wp2_with fail
      exact bodyPost_ret (results_tmp2 rfl _ _ _) rfl ⟨rfl, kk + k2, rfl⟩)
end Go.Proofs.YtdafeokjedmnkaaDoor
