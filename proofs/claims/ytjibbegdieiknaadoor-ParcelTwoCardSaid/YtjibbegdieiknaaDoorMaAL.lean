/-
  The reference of head: Few, Right.
-/
import Derived.Test.YtjibbegdieiknaaDoorMaAK
namespace Go.Proofs.YtjibbegdieiknaaDoor
open Go.RowKit
set_option linter.unusedVariables false

/-- A head as a value. -/
def HV (lg : Bool) (lv : Int) (ph : Bool) (A : Option Addr) (a : List Int) (c : Nat) (B : Option Addr) (b : List Int) (d : Nat) : Value :=
  .agg #[.bool lg, .int .i64 lv, .bool ph, .slice A a.length c, .slice B b.length d]

set_option maxHeartbeats 800000 in
theorem Few_any (lg : Bool) (lv : Int) (ph : Bool) (A : Option Addr) (a : List Int) (c : Nat) (B : Option Addr) (b : List Int) (d : Nat) (w : World) (ha : Sl w A c a) (hb : Sl w B d b) :
    Calls Tryd.prog 7 #[HV lg lv ph A a c B b d] w fun r w' => ∃ A' c' B' d', r = .returned (HV lg lv ph A' (a.take 30) c' B' (b.take 30) d') ∧ Own w' w.heap.size A' c' (a.take 30) ∧ Own w' w.heap.size B' d' (b.take 30) ∧ Below w.heap.size w w' := by
  have C1 := (fun W (hr : Rd W A a) => cut_any A c a 30 W hr (by have := ha.max; have := ha.le; omega) ha.le (by omega) (by omega))
  have C2 := (fun W (hr : Rd W B b) => cut_any B d b 30 W hr (by have := hb.max; have := hb.le; omega) hb.le (by omega) (by omega))
  obtain ⟨a2, ha2⟩ : ∃ x, x = a.take (30 : Int).toNat := ⟨_, rfl⟩
  obtain ⟨b2, hb2⟩ : ∃ x, x = b.take (30 : Int).toNat := ⟨_, rfl⟩
  rw [← ha2] at C1
  rw [← hb2] at C2
  rw [show a.take 30 = a2 from ha2.symm, show b.take 30 = b2 from hb2.symm]
  have C1' := Lib.hid C1
  have C2' := Lib.hid C2
  clear C1 C2
  have C1 := C1'
  have C2 := C2'
  clear C1' C2'
  have HA := Lib.hid ha.rd
  have HB := Lib.hid hb.rd
  clear ha2 hb2 ha hb
  unfold HV
  go_enter Tryd.func7, Tryd.ntmps7
  go_wp2_with fail
  obtain ⟨W, hW⟩ : ∃ W, W = (w.alloc (.cells #[.bool lg, .int .i64 lv, .bool ph, .slice A a.length c, .slice B b.length d] 25)).alloc (.cells #[.bool false, .int .i64 0, .bool false, .slice none 0 0, .slice none 0 0] 25) := ⟨_, rfl⟩
  obtain ⟨gR, hgR⟩ : ∃ x, x = w.heap.size + 1 := ⟨_, rfl⟩
  have kb : Blk W w.heap.size 25 #[.bool lg, .int .i64 lv, .bool ph, .slice A a.length c, .slice B b.length d] := by rw [hW]; exact (Blk.new w _ _).alloc _
  have kr : Blk W gR 25 #[.bool false, .int .i64 0, .bool false, .slice none 0 0, .slice none 0 0] := by
    rw [hW, hgR]
    have h := Blk.new (w.alloc (.cells #[.bool lg, .int .i64 lv, .bool ph, .slice A a.length c, .slice B b.length d] 25)) 25 #[.bool false, .int .i64 0, .bool false, .slice none 0 0, .slice none 0 0]
    simpa using h
  have bl : Below w.heap.size w W := by rw [hW]; exact ((Below.refl _ _).alloc (Nat.le_refl _) _).alloc (by simp) _
  show Code.wp _ _ _ _ ((w.alloc (.cells #[.bool lg, .int .i64 lv, .bool ph, .slice A a.length c, .slice B b.length d] 25)).alloc (.cells #[.bool false, .int .i64 0, .bool false, .slice none 0 0, .slice none 0 0] 25))
  rw [← hW, ← hgR]
  have hne : w.heap.size ≠ gR := by omega
  have hge : w.heap.size ≤ gR := by omega
  clear hW hgR
  have KS0 := (show ∀ w', Blk w' w.heap.size 25 #[.bool lg, .int .i64 lv, .bool ph, .slice A a.length c, .slice B b.length d] → (w'.cell? ⟨w.heap.size, 0, none⟩ = some (.bool lg) ∧ w'.cell? ⟨w.heap.size, 1, none⟩ = some (.int .i64 lv) ∧ w'.cell? ⟨w.heap.size, 2, none⟩ = some (.bool ph) ∧ w'.cell? ⟨w.heap.size, 3, none⟩ = some (.slice A a.length c) ∧ w'.cell? ⟨w.heap.size, 4, none⟩ = some (.slice B b.length d)) from fun w' k => ⟨k.cell 0, k.cell 1, k.cell 2, k.cell 3, k.cell 4⟩)
  have KB := Lib.hid (show ∀ w', Below W.heap.size W.drew w' → Blk w' w.heap.size 25 #[.bool lg, .int .i64 lv, .bool ph, .slice A a.length c, .slice B b.length d] from fun w' hb => (show Blk W.drew w.heap.size _ _ from kb).below hb kb.lt)
  have KR := Lib.hid (show ∀ w', Below W.heap.size W.drew w' → Blk w' gR 25 #[.bool false, .int .i64 0, .bool false, .slice none 0 0, .slice none 0 0] from fun w' hb => (show Blk W.drew gR _ _ from kr).below hb kr.lt)
  have KS := Lib.hid KS0
  have BL := Lib.hid bl
  clear bl kb kr KS0
  refine wp_region_held_drew (S := fun w' => (w'.cell? ⟨w.heap.size, 0, none⟩ = some (.bool lg) ∧ w'.cell? ⟨w.heap.size, 1, none⟩ = some (.int .i64 lv) ∧ w'.cell? ⟨w.heap.size, 2, none⟩ = some (.bool ph) ∧ w'.cell? ⟨w.heap.size, 3, none⟩ = some (.slice A a.length c) ∧ w'.cell? ⟨w.heap.size, 4, none⟩ = some (.slice B b.length d))) (by kernel_rfl) (KS.out _ (KB.out _ (Below.refl _ _))) (fun hHeld => ?_)
  refine wpAnyH_take (i := 0) (oi := ⟨_, _, _, _, _, _⟩) (v := .pointer (some ⟨w.heap.size, 0, none⟩)) rfl (by kernel_rfl) (by kernel_rfl) (by kernel_rfl) (fun _ _ _ h => h) (Or.inl ⟨by rfl, fun w' hS => by obtain ⟨h0, h1, h2, h3, h4⟩ := hS; go_simp⟩) hHeld ?_
  simp only [Act.put, List.setIfInBounds_toArray, List.set_cons_zero, List.set_cons_succ]
  refine wpAnyH_take (i := 1) (oi := ⟨_, _, _, _, _, _⟩) (v := .bool lg) rfl (by kernel_rfl) (by kernel_rfl) (by kernel_rfl) (fun _ _ _ h => h) (Or.inl ⟨by rfl, fun w' hS => by obtain ⟨h0, h1, h2, h3, h4⟩ := hS; go_simp⟩) hHeld ?_
  simp only [Act.put, List.setIfInBounds_toArray, List.set_cons_zero, List.set_cons_succ]
  refine wpAnyH_take (i := 2) (oi := ⟨_, _, _, _, _, _⟩) (v := .pointer (some ⟨w.heap.size, 1, none⟩)) rfl (by kernel_rfl) (by kernel_rfl) (by kernel_rfl) (fun _ _ _ h => h) (Or.inl ⟨by rfl, fun w' hS => by obtain ⟨h0, h1, h2, h3, h4⟩ := hS; go_simp⟩) hHeld ?_
  simp only [Act.put, List.setIfInBounds_toArray, List.set_cons_zero, List.set_cons_succ]
  refine wpAnyH_take (i := 3) (oi := ⟨_, _, _, _, _, _⟩) (v := .int .i64 lv) rfl (by kernel_rfl) (by kernel_rfl) (by kernel_rfl) (fun _ _ _ h => h) (Or.inl ⟨by rfl, fun w' hS => by obtain ⟨h0, h1, h2, h3, h4⟩ := hS; go_simp⟩) hHeld ?_
  simp only [Act.put, List.setIfInBounds_toArray, List.set_cons_zero, List.set_cons_succ]
  refine wpAnyH_take (i := 4) (oi := ⟨_, _, _, _, _, _⟩) (v := .pointer (some ⟨w.heap.size, 2, none⟩)) rfl (by kernel_rfl) (by kernel_rfl) (by kernel_rfl) (fun _ _ _ h => h) (Or.inl ⟨by rfl, fun w' hS => by obtain ⟨h0, h1, h2, h3, h4⟩ := hS; go_simp⟩) hHeld ?_
  simp only [Act.put, List.setIfInBounds_toArray, List.set_cons_zero, List.set_cons_succ]
  refine wpAnyH_take (i := 5) (oi := ⟨_, _, _, _, _, _⟩) (v := .bool ph) rfl (by kernel_rfl) (by kernel_rfl) (by kernel_rfl) (fun _ _ _ h => h) (Or.inl ⟨by rfl, fun w' hS => by obtain ⟨h0, h1, h2, h3, h4⟩ := hS; go_simp⟩) hHeld ?_
  simp only [Act.put, List.setIfInBounds_toArray, List.set_cons_zero, List.set_cons_succ]
  refine wpAnyH_take (i := 6) (oi := ⟨_, _, _, _, _, _⟩) (v := .pointer (some ⟨w.heap.size, 3, none⟩)) rfl (by kernel_rfl) (by kernel_rfl) (by kernel_rfl) (fun _ _ _ h => h) (Or.inl ⟨by rfl, fun w' hS => by obtain ⟨h0, h1, h2, h3, h4⟩ := hS; go_simp⟩) hHeld ?_
  simp only [Act.put, List.setIfInBounds_toArray, List.set_cons_zero, List.set_cons_succ]
  refine wpAnyH_take (i := 7) (oi := ⟨_, _, _, _, _, _⟩) (v := .slice A a.length c) rfl (by kernel_rfl) (by kernel_rfl) (by kernel_rfl) (fun _ _ _ h => h) (Or.inl ⟨by rfl, fun w' hS => by obtain ⟨h0, h1, h2, h3, h4⟩ := hS; go_simp⟩) hHeld ?_
  simp only [Act.put, List.setIfInBounds_toArray, List.set_cons_zero, List.set_cons_succ]
  refine wpAnyH_take (i := 9) (oi := ⟨_, _, _, _, _, _⟩) (v := .pointer (some ⟨w.heap.size, 4, none⟩)) rfl (by kernel_rfl) (by kernel_rfl) (by kernel_rfl) (fun _ _ _ h => h) (Or.inl ⟨by rfl, fun w' hS => by obtain ⟨h0, h1, h2, h3, h4⟩ := hS; go_simp⟩) hHeld ?_
  simp only [Act.put, List.setIfInBounds_toArray, List.set_cons_zero, List.set_cons_succ]
  refine wpAnyH_take (i := 10) (oi := ⟨_, _, _, _, _, _⟩) (v := .slice B b.length d) rfl (by kernel_rfl) (by kernel_rfl) (by kernel_rfl) (fun _ _ _ h => h) (Or.inl ⟨by rfl, fun w' hS => by obtain ⟨h0, h1, h2, h3, h4⟩ := hS; go_simp⟩) hHeld ?_
  simp only [Act.put, List.setIfInBounds_toArray, List.set_cons_zero, List.set_cons_succ]
  refine wpAnyH_ready (rs := [8]) (by kernel_rfl) (by simp) ?_
  refine AllReadyH.cons rfl (fun K hK => ?_) AllReadyH.nil
  go_simp
  refine (C1.out W.drew (HA.out.below BL.out.drew)).mono ?_
  rintro e w1 ⟨A1, c1, rfl, o1, b1⟩
  refine hK.out _ _ (KS.out _ (KB.out _ b1)) (fun hHeld1 => ?_)
  clear hK K
  refine wpAnyH_ready (rs := [11]) (by kernel_rfl) (by simp) ?_
  refine AllReadyH.cons rfl (fun K hK => ?_) AllReadyH.nil
  go_simp
  refine (C2.out w1 ((HB.out.below BL.out.drew).below b1)).mono ?_
  rintro e w2 ⟨A2, c2, rfl, o2, b2'⟩
  have z2 : Below W.heap.size W.drew w2 := b1.trans (b2'.mono b1.size)
  refine hK.out _ _ (KS.out _ (KB.out _ z2)) (fun hHeld2 => ?_)
  clear hK K
  refine wpAnyH_take (i := 12) (oi := ⟨_, _, _, _, _, _⟩) (v := .agg #[.bool lg, .int .i64 lv, .bool ph, .slice A1 a2.length c1, .slice A2 b2.length c2]) rfl (by kernel_rfl) (by kernel_rfl) (by kernel_rfl) (fun _ _ _ h => h) (Or.inl ⟨by rfl, fun w' hS => by go_simp⟩) hHeld2 ?_
  simp only [Act.put, List.setIfInBounds_toArray, List.set_cons_zero, List.set_cons_succ]
  have r := KR.out _ z2
  have f0 := r.frozen 0
  have f1 := r.frozen 1
  have f2 := r.frozen 2
  have f3 := r.frozen 3
  have f4 := r.frozen 4
  have q0 := r.cell 0
  have q1 := r.cell 1
  have q2 := r.cell 2
  have q3 := r.cell 3
  have q4 := r.cell 4
  refine wpAnyH_ready (rs := [13]) (by kernel_rfl) (by simp) ?_
  refine AllReadyH.cons rfl (fun K hK => ?_) AllReadyH.nil
  go_simp
  refine hK.out _ (set5 w2 gR (.bool lg) (.int .i64 lv) (.bool ph) (.slice A1 a2.length c1) (.slice A2 b2.length c2)) (KS.out _ (set5_far (KB.out _ z2) hne _ _ _ _ _)) (fun hHeld3 => ?_)
  clear hK K
  refine wpAnyH_done (by kernel_rfl) ?_ _
  have O1 := Lib.hid ((o1.below b2').base_le (show w.heap.size ≤ W.drew.heap.size from BL.out.size))
  have O2 := Lib.hid (o2.base_le (show w.heap.size ≤ w1.heap.size from Nat.le_trans BL.out.size b1.size))
  have BB := Lib.hid (BL.out.drew.trans (z2.mono BL.out.size))
  have RR := Lib.hid r
  clear o1 o2 b1 z2 b2' r f0 f1 f2 f3 f4 q0 q1 q2 q3 q4 hHeld hHeld1 hHeld2 hHeld3
  go_wp2_with fail
  refine bodyPost_ret (v := .agg #[.bool lg, .int .i64 lv, .bool ph, .slice A1 a2.length c1, .slice A2 b2.length c2]) (results_cell_row rfl _ _ gR 25 _ (0, 0) _ rfl (set5_blk RR.out _ _ _ _ _) Tryd.underlying25 rfl (by kernel_rfl)) rfl ?_
  exact ⟨_, _, _, _, rfl, set5_own O1.out RR.out (by decide) _ _ _ _ _, set5_own O2.out RR.out (by decide) _ _ _ _ _, below_set5 BB.out hge _ _ _ _ _⟩
def rightB (lg : Bool) (lv : Int) (ph : Bool) (a b : List Int) : Bool :=
  if lg then decide (0 ≤ lv) && decide (lv ≤ 1) && decide (a.length < 21) && decide (b.length < 21) && !ph else decide (lv = 2) && decide (a.length = 8) && decide (b.length = 0)
theorem Right_any (lg : Bool) (lv : Int) (ph : Bool) (A : Option Addr) (a : List Int) (c : Nat) (B : Option Addr) (b : List Int) (d : Nat) (w : World) :
    Calls Tryd.prog 12 #[HV lg lv ph A a c B b d] w fun r w' => r = .returned (.bool (rightB lg lv ph a b)) ∧ Below w.heap.size w w' := by
  unfold HV
  obtain ⟨R, hR⟩ : ∃ R, R = rightB lg lv ph a b := ⟨_, rfl⟩
  rw [← hR]
  have HR := Lib.hid hR
  clear hR
  cases lg <;> cases ph
  all_goals
    go_enter Tryd.func12, Tryd.ntmps12
    go_wp2_with fail
  all_goals
    go_ret
    refine ⟨?_, (Below.refl _ _).alloc (Nat.le_refl _) _⟩
    rw [HR.out]
    unfold rightB
    simp
    first
      | done
      | omega
      | (rename_i h1 h2
         have h3 : a.length = 8 := by omega
         have h4 : ((b.length : Int) == 0) = decide (b = []) := by
           cases b with
           | nil => rfl
           | cons x r => simp; omega
         rw [h4]
         simp [h1, h3])
end Go.Proofs.YtjibbegdieiknaaDoor

/-
  The reference's Bytes of a head.
-/
namespace Go.Proofs.YtjibbegdieiknaaDoor
open Go.RowKit
set_option linter.unusedVariables false

def H5 (lg : Bool) (lv : Int) (ph : Bool) (A : Option Addr) (a : List Int) (c : Nat) (B : Option Addr) (b : List Int) (d : Nat) : Array Value := #[.bool lg, .int .i64 lv, .bool ph, .slice A a.length c, .slice B b.length d]

theorem below_al {w w' : World} {o : Obj} (h : Below (w.alloc o).heap.size (w.alloc o) w') : Below w.heap.size w w' := ((Below.refl _ _).alloc (Nat.le_refl _) o).trans (h.mono (by simp))

def shortB (ph : Bool) (a : List Int) (pn : Int) : List Int := (if ph then 71 else 67) :: (a ++ be pn 4)
end Go.Proofs.YtjibbegdieiknaaDoor

/-
  The reference's Bytes of a long head.
-/
namespace Go.Proofs.YtjibbegdieiknaaDoor
open Go.RowKit
set_option linter.unusedVariables false

theorem wp_app {o : Oper} {a : Act} {w : World} {K : Act → World → Prop} {Q : Exit → Act → World → Prop} (s x : Operand)
    (ho : o.op = .call { callee := .builtin .append, args := #[s, x], argTypes := #[23, 23] })
    (base : Nat) {c d : Nat} {A B : Option Addr} {l news : List Int} (hs : a.eval s = .slice A l.length c) (hx : a.eval x = .slice B news.length d) (hown : Own w base A c l) (hr : Rd w B news)
    (hlen : l.length + news.length ≤ 70368744177664) (hbase : base ≤ w.heap.size)
    (h : ∀ A' c' w', Own w' base A' c' (l ++ news) → w.grownBy w' (Value.slice A l.length c).ownBlock → Below base w w' → K (a.put o.dst (.slice A' (l.length + news.length) c')) w') : o.wp Tryd.prog a w K Q := by
  obtain ⟨A', c', w', hrun, h2, h3⟩ := run_app w o.type (d := d) hown hr hlen hbase
  unfold Oper.wp execOp
  simp only [ho, resolve, invoke, builtin, Sem.run_bind, Sem.run_pure, Result.andThen_ok, List.map_toArray, List.map_cons, List.map_nil, hs, hx, hrun]
  exact h _ _ _ h2 h3 ((Below.refl _ _).grown h3 hbase hown.row_ge)
def longB (lv : Int) (a b : List Int) (pn L : Int) : List Int :=
  [195 + 32 * lv, 0, 0, 0, 1, (a.length : Int)] ++ a ++ [(b.length : Int)] ++ b ++ (if lv = 0 then [0] else []) ++ wenc (4 + L) 2 ++ be pn 4
end Go.Proofs.YtjibbegdieiknaaDoor

/-
  append(p, make([]byte, n)...): one operation with an int operand.
-/
namespace Go.Proofs.YtjibbegdieiknaaDoor
set_option maxRecDepth 100000
open Go.RowKit
set_option linter.unusedVariables false
set_option linter.unusedSimpArgs false

theorem zeroCells_u8 (n : Nat) : Builtin.zeroCells (Value.int .u8 0).cells n = (U8 (List.replicate n 0)).toArray := by
  have h : Builtin.zeroCells (Value.int .u8 0).cells n = (Array.range n).map fun _ => Value.int .u8 0 := by
    unfold Builtin.zeroCells
    have e : (Value.int .u8 0).cells.size = 1 := rfl
    rw [e, Nat.mul_one]
    refine Array.map_congr_left fun i _ => ?_
    simp [Value.cells, Nat.mod_one]
  rw [h]
  apply Array.ext'
  simp [U8, List.map_const']

theorem run_app0 (w : World) (ty : TypeId) {base c : Nat} {A : Option Addr} {l : List Int} (k : Nat) (hk : 0 < k) (hw : IntKind.i64.wrap (k : Int) = (k : Int)) (hown : Own w base A c l)
    (hlen : l.length + k ≤ 70368744177664) (hbase : base ≤ w.heap.size) :
    ∃ A' c' w', (Builtin.append_ #[23, 3] ty #[.slice A l.length c, .int .i64 (k : Int)]).run Tryd.prog w = .ok (.slice A' (l.length + k) c') w' ∧
      Own w' base A' c' (l ++ List.replicate k 0) ∧ w.grownBy w' (Value.slice A l.length c).ownBlock := by
  obtain ⟨i0, hi0, hz0, hz1, hz2⟩ := info_parts info_u8
  have ht := Tryd.underlying23
  have hu := Tryd.underlying3
  have hk0 : ¬ (k : Int) < 0 := by omega
  have hk48 : ¬ (281474976710656 < (k : Int)) := by omega
  have hkz : k ≠ 0 := by omega
  have hmx : max (k : Int) 0 = (k : Int) := by omega
  have hmx2 : max 0 (k : Int) = (k : Int) := by omega
  have hkle : ¬ (k : Int) ≤ 0 := by omega
  obtain ⟨news, hN⟩ : ∃ news, news = U8 (List.replicate k 0) := ⟨_, rfl⟩
  have hzc : (Builtin.zeroCells #[Value.int IntKind.u8 0] k) = news.toArray := by rw [hN]; exact zeroCells_u8 k
  have hnl : news.length = k := by rw [hN]; simp [U8]
  have hn1 : ∀ u ∈ news, u.oneCell' = true := by rw [hN]; exact U8_oneCell _
  have hU : U8 (l ++ List.replicate k 0) = U8 l ++ news := by rw [U8_append, hN]
  have hLL : (l ++ List.replicate k (0 : Int)).length = l.length + k := by simp
  have hul : (U8 l).length = l.length := by simp [U8]
  clear hN
  have grown : ∀ (old : Nat), old < l.length + k → ∀ (row : Option Nat),
      Own (w.drew.alloc (.cells ((U8 l).toArray ++ news.toArray ++ Builtin.zeroCells (Value.int IntKind.u8 0).cells (grownCap w (l.length + k) old 5 - (l.length + k))) 5)) base
        (some ⟨w.heap.size, 0, none⟩) (grownCap w (l.length + k) old 5) (l ++ List.replicate k 0) ∧
      w.grownBy (w.drew.alloc (.cells ((U8 l).toArray ++ news.toArray ++ Builtin.zeroCells (Value.int IntKind.u8 0).cells (grownCap w (l.length + k) old 5 - (l.length + k))) 5)) row := by
    intro old ho row
    have hge := grownCap_ge w (l.length + k) old 5
    have hcm : grownCap w (l.length + k) old 5 ≤ maxLen := grownCap_le_maxLen w (l.length + k) old 5 (by unfold maxLen; omega)
    refine ⟨?_, ⟨rfl, rfl, rfl, by simp, fun j hj _ => heap_alloc_old w.drew _ hj⟩⟩
    unfold Own
    rw [hLL, hU]
    refine ⟨by simp [hul, hnl], .inr ⟨w.heap.size, _, _, rfl, hbase, heap_alloc_new w.drew _, hge, hcm, ?_, ?_⟩⟩
    · have hzs : (Value.int IntKind.u8 0).cells.size = 1 := rfl
      simp only [Array.size_append, List.size_toArray, size_zeroCells, hzs, hul, hnl]
      omega
    · simp only [Array.toList_append, List.append_assoc]
      rw [← List.append_assoc, show (l.length + k) * 1 = (U8 l ++ news).length by simp [hul, hnl]]
      exact List.take_left
  rcases hown.2 with ⟨h2, h0⟩ | ⟨g, cap, cur, h2, hbg, hg, hnc, hcm, hcs, htake⟩
  · injection h2 with hA hl hc
    subst hA; subst hc
    have hl0 : l = [] := List.eq_nil_of_length_eq_zero hl
    subst hl0
    have hgr := grown 0 (by simp; omega) (Value.ownBlock (.slice none 0 0))
    refine ⟨_, _, _, ?_, hgr.1, hgr.2⟩
    have h63' : ¬ (9223372036854775807 < (k : Int)) := by omega
    have h48' : ¬ (281474976710656 < Builtin.nextslicecap k 0) := by rw [nextslicecap_zero hk]; omega
    simp [Builtin.append_, run_underlying ht, run_underlying hu, sizeOf, typeInfo, zeroValue, hi0, hz0, hz1, hz2, asInt, asIntOf, hmx, hmx2, hkle, hw, hk0, hk48, hkz, h63', h48', Question.forced, newRow, grownCap, Builtin.firstCells, Value.cells, hzc, U8]
  · injection h2 with hA hl hc
    subst hA; subst hc
    by_cases hroom : l.length + k ≤ c
    · have hfit : l.length * 1 + 0 + news.length ≤ cur.size := by rw [hnl, hcs]; omega
      have hst := run_storeCells_at Tryd.prog g (l.length * 1) 5 news 0 cur w hg hfit hn1
      simp only [Nat.add_zero, Nat.mul_one] at hst
      refine ⟨some ⟨g, 0, none⟩, c, w.setRow g (cur.toList.take l.length ++ news ++ cur.toList.drop (l.length + news.length)).toArray, ?_, ?_, ⟨rfl, rfl, rfl, by simp, fun k _ hk => setRow_other w g k _ (fun e => hk (by simp [Value.ownBlock, e]))⟩⟩
      · simp [Builtin.append_, run_underlying ht, run_underlying hu, sizeOf, typeInfo, zeroValue, hi0, hz0, hz1, hz2, asInt, asIntOf, hmx, hmx2, hkle, hw, hk0, hk48, hkz, hroom, Value.cells, hzc, Addr.add_lit, hst]
      · unfold Own
        rw [hLL, hU]
        refine ⟨by simp [hul, hnl], .inr ⟨g, c, _, rfl, hbg, setRow_heap w g cur _ 5 _ hg, hroom, hcm, ?_, ?_⟩⟩
        · simp only [List.size_toArray, List.length_append, List.length_take, List.length_drop, Array.length_toList]
          omega
        · rw [Nat.mul_one] at htake
          rw [htake, show (l.length + k) * 1 = (U8 l ++ news).length by simp [hul, hnl]]
          exact List.take_left
    · have hgr := grown c (by omega) (Value.ownBlock (.slice (some ⟨g, 0, none⟩) l.length c))
      refine ⟨_, _, _, ?_, hgr.1, hgr.2⟩
      have holds : ∀ j u, (U8 l)[j]? = some u → w.drew.cell? ((⟨g, 0, none⟩ : Addr).add j) = some u := by
        have := World.ownsRow.cells hown (g := g) rfl
        simpa using this
      have hfo := run_firstCells_some (P := Tryd.prog) w.drew 1 l.length ⟨g, 0, none⟩ l.length c (U8 l) (by simp [hul]) holds
      have h63' : ¬ (9223372036854775807 < ((l.length : Int) + (k : Int))) := by omega
      have h48' : ¬ (281474976710656 < Builtin.nextslicecap (l.length + k) c) := by
        have := growslice_fits (need := l.length + k) (old := c) (bytes := 1) (by omega) (by omega)
        omega
      simp [Builtin.append_, run_underlying ht, run_underlying hu, sizeOf, typeInfo, zeroValue, hi0, hz0, hz1, hz2, asInt, asIntOf, hmx, hmx2, hkle, hw, hk0, hk48, hkz, hroom, h63', h48', Question.forced, newRow, grownCap, Value.cells, hzc, hfo]
      congr 2
      apply Array.ext'
      simp [List.append_assoc]

theorem wpList_app0 {ops : Array Oper} {rest : List Oper} {o : Oper} {a : Act} {w : World} {Q : Exit → Act → World → Prop} (hgd : o.guard = none) (s x : Operand)
    (ho : o.op = .call { callee := .builtin .append, args := #[s, x], argTypes := #[23, 3] })
    (base : Nat) {c : Nat} {A : Option Addr} {l : List Int} (k : Nat) (hs : a.eval s = .slice A l.length c) (hx : a.eval x = .int .i64 (k : Int)) (hk : 0 < k) (hw : IntKind.i64.wrap (k : Int) = (k : Int)) (hown : Own w base A c l)
    (hlen : l.length + k ≤ 70368744177664) (hbase : base ≤ w.heap.size)
    (h : ∀ A' c' w', Own w' base A' c' (l ++ List.replicate k 0) → w.grownBy w' (Value.slice A l.length c).ownBlock → Below base w w' →
      wpList Tryd.prog ops Q rest (a.put o.dst (.slice A' (l.length + k) c')) w') : wpList Tryd.prog ops Q (o :: rest) a w :=
  wpList_plain hgd fun K hK => by
    obtain ⟨A', c', w', hrun, h2, h3⟩ := run_app0 w o.type k hk hw hown hlen hbase
    unfold Oper.wp execOp
    simp only [ho, resolve, invoke, builtin, Sem.run_bind, Sem.run_pure, Result.andThen_ok, List.map_toArray, List.map_cons, List.map_nil, hs, hx, hrun]
    exact hK _ _ (h A' c' w' h2 h3 ((Below.refl _ _).grown h3 hbase hown.row_ge))
end Go.Proofs.YtjibbegdieiknaaDoor

/-
  HeadShort.
-/
namespace Go.Proofs.YtjibbegdieiknaaDoor
set_option maxRecDepth 100000
open Go.RowKit
set_option linter.unusedVariables false

theorem short_model (f : Int) (r : List Int) (hf : f = 67 ∨ f = 71) :
    (r.length < 8 → rdErr (f :: r) = 2) ∧ (8 ≤ r.length → r.length < 28 → rdErr (f :: r) = 4) ∧ (28 ≤ r.length → rdErr (f :: r) = 0 ∧ rdAt (f :: r) = 9 ∧ hdV (f :: r) 0 = (r.length : Int) - 8) := by
  have hb : byteV (f :: r) 0 = f := rfl
  have hlt : f < 128 := by omega
  have hfix : fixOk f = true := by rcases hf with rfl | rfl <;> rfl
  have hn : needE 0 (f :: r).length 1 = 0 := by rw [needE, if_neg (by simp)]
  have hE1 : hdE1 (f :: r) 0 = 0 := by rw [hdE1, hb, hfix, hn]; rfl
  have hP1 : hdP1 (f :: r) 0 = r := by rw [hdP1, tkL, if_pos ⟨rfl, by simp⟩]; rfl
  have hE : hdE (f :: r) 0 = needE 0 r.length 8 := by rw [hdE, hb, if_pos hlt, shE, hE1, hP1]
  have hP : hdP (f :: r) 0 = tkL r 0 8 := by rw [hdP, hb, if_pos hlt, shL, hE1, hP1]
  have hV : hdV (f :: r) 0 = ((leftV (tkL r 0 8) (needE 0 r.length 8)).length : Int) := by rw [hdV, hb, if_pos hlt, shN, shL, shE, hE1, hP1]
  refine ⟨fun h => ?_, fun h1 h2 => ?_, fun h => ?_⟩
  · have e : needE 0 r.length 8 = 2 := by rw [needE, if_pos ⟨rfl, h⟩]
    rw [rdErr, hE, e, mustE, if_neg (by omega)]
  · have e : needE 0 r.length 8 = 0 := by rw [needE, if_neg (by omega)]
    have t : tkL r 0 8 = r.drop 8 := by rw [tkL, if_pos ⟨rfl, h1⟩]
    rw [rdErr, hE, hV, e, t, leftV, if_pos rfl, mustE, if_pos ⟨rfl, by simp; omega⟩]
  · have e : needE 0 r.length 8 = 0 := by rw [needE, if_neg (by omega)]
    have t : tkL r 0 8 = r.drop 8 := by rw [tkL, if_pos ⟨rfl, by omega⟩]
    have v : hdV (f :: r) 0 = (r.length : Int) - 8 := by rw [hV, e, t, leftV, if_pos rfl]; simp; omega
    have er : rdErr (f :: r) = 0 := by rw [rdErr, hE, v, e, mustE, if_neg (by simp; omega)]
    refine ⟨er, ?_, v⟩
    rw [rdAt, rdLeft, er, hP, t, leftV, if_pos rfl]
    simp
    omega
theorem short_nil : rdErr [] = 2 := rfl
theorem short_q (q : List Int) (h : q = [] ∨ ∃ f r, q = f :: r ∧ (f = 67 ∨ f = 71)) :
    (q.length < 9 → rdErr q = 2) ∧ (9 ≤ q.length → q.length < 29 → rdErr q = 4) ∧ (29 ≤ q.length → rdErr q = 0 ∧ rdAt q = 9 ∧ hdV q 0 = (q.length : Int) - 9) := by
  rcases h with rfl | ⟨f, r, rfl, hf⟩
  · exact ⟨fun _ => short_nil, fun h => absurd h (by simp), fun h => absurd h (by simp)⟩
  · obtain ⟨h1, h2, h3⟩ := short_model f r hf
    have hl : (f :: r).length = r.length + 1 := rfl
    refine ⟨fun h => h1 (by omega), fun h h' => h2 (by omega) (by omega), fun h => ?_⟩
    obtain ⟨e1, e2, e3⟩ := h3 (by omega)
    exact ⟨e1, e2, by rw [e3, hl]; omega⟩
theorem take_q (f : Int) (r Z : List Int) (k : Nat) (hf : f = 67 ∨ f = 71) : (f :: r ++ Z).take k = [] ∨ ∃ g s, (f :: r ++ Z).take k = g :: s ∧ (g = 67 ∨ g = 71) := by
  cases k with
  | zero => exact .inl rfl
  | succ m => exact .inr ⟨f, (r ++ Z).take m, rfl, hf⟩
theorem shortB_bytes (ph : Bool) (a : List Int) (pn : Int) (ha : Bytes a) : Bytes (shortB ph a pn) := by
  intro x hx
  unfold shortB at hx
  rcases List.mem_cons.1 hx with rfl | hx
  · cases ph <;> decide
  · rcases List.mem_append.1 hx with hx | hx
    · exact ha x hx
    · exact be_bytes _ _ x hx

theorem u64_range {n : Int} (h : (Lit.int .u64 n).wf = true) : 0 ≤ n ∧ n < 18446744073709551616 := by
  simp [Lit.wf, IntKind.min, IntKind.max, IntKind.signed, IntKind.bits] at h; omega
theorem u8_range' {n : Int} (h : (Lit.int .u8 n).wf = true) : 0 ≤ n ∧ n < 256 := by
  simp [Lit.wf, IntKind.min, IntKind.max, IntKind.signed, IntKind.bits] at h; omega

theorem Sl.upto {w : World} {A : Option Addr} {c : Nat} {l : List Int} (h : Sl w A c l) {k : Nat} (hk : k ≤ l.length) : Sl w A c (l.take k) :=
  ⟨h.rd.upto hk, Nat.le_trans (by rw [List.length_take]; omega) h.le, h.max, h.nil⟩
theorem run_app60 (w : World) (ty : TypeId) {base c : Nat} {A : Option Addr} {l : List Int} (k : Nat) (Z : List Int) (hk : k = 60) (hZ : Z = List.replicate k 0) (z : Int) (hz : z = 60) (hown : Own w base A c l)
    (hlen : l.length = 13) (hbase : base ≤ w.heap.size) :
    ∃ A' c' w', (Builtin.append_ #[23, 3] ty #[.slice A l.length c, .int .i64 z]).run Tryd.prog w = .ok (.slice A' (l ++ Z).length c') w' ∧
      Own w' base A' c' (l ++ Z) ∧ w.grownBy w' (Value.slice A l.length c).ownBlock := by
  have hw : IntKind.i64.wrap (k : Int) = (k : Int) := by rw [hk]; decide
  have hzk : z = (k : Int) := by omega
  rw [hzk, hZ, List.length_append, List.length_replicate]
  exact run_app0 w ty k (by omega) hw hown (by omega) hbase
theorem mk60 : ∃ (k : Nat) (Z : List Int), k = 60 ∧ Z = List.replicate k 0 ∧ Z.length = 60 ∧ Bytes Z := by
  refine ⟨60, _, rfl, rfl, by rw [List.length_replicate], ?_⟩
  intro x hx
  rw [List.eq_of_mem_replicate hx]
  decide
theorem wpList_app60 {ops : Array Oper} {rest : List Oper} {o : Oper} {a : Act} {w : World} {Q : Exit → Act → World → Prop} (hgd : o.guard = none) (s x : Operand)
    (ho : o.op = .call { callee := .builtin .append, args := #[s, x], argTypes := #[23, 3] })
    (base : Nat) {c : Nat} {A : Option Addr} {l : List Int} (k : Nat) (Z : List Int) (hk : k = 60) (hZ : Z = List.replicate k 0) (hs : a.eval s = .slice A l.length c) (hx : a.eval x = .int .i64 60) (hown : Own w base A c l)
    (hlen : l.length = 13) (hbase : base ≤ w.heap.size)
    (h : ∀ A' c' w', Own w' base A' c' (l ++ Z) → Below base w w' → wpList Tryd.prog ops Q rest (a.put o.dst (.slice A' (l ++ Z).length c')) w') : wpList Tryd.prog ops Q (o :: rest) a w :=
  wpList_plain hgd fun K hK => by
    obtain ⟨A', c', w', hrun, h2, h3⟩ := run_app60 w o.type k Z hk hZ 60 rfl hown hlen hbase
    unfold Oper.wp execOp
    simp only [ho, resolve, invoke, builtin, Sem.run_bind, Sem.run_pure, Result.andThen_ok, List.map_toArray, List.map_cons, List.map_nil, hs, hx, hrun]
    exact hK _ _ (h A' c' w' h2 ((Below.refl _ _).grown h3 hbase hown.row_ge))

end Go.Proofs.YtjibbegdieiknaaDoor

/-
  What Read answers on the bytes of a long head that is cut off.
-/
namespace Go.Proofs.YtjibbegdieiknaaDoor
open Go.RowKit
set_option linter.unusedVariables false
set_option linter.unusedSimpArgs false

def Pre (q F : List Int) : Prop := ∃ s, s ≠ [] ∧ q ++ s = F
theorem Pre.lt {q F : List Int} (h : Pre q F) : q.length < F.length := by
  obtain ⟨s, hs, rfl⟩ := h
  have : 0 < s.length := List.length_pos_iff.2 hs
  simp; omega
theorem Pre.of_take (F : List Int) (k : Nat) (h : k < F.length) : Pre (F.take k) F :=
  ⟨F.drop k, by intro e; have := congrArg List.length e; simp at this; omega, List.take_append_drop k F⟩
theorem tk_pre (X R q : List Int) (h : Pre q (X ++ R)) : q.length < X.length ∨ ∃ q', q = X ++ q' ∧ Pre q' R := by
  obtain ⟨s, hs, e⟩ := h
  rcases List.append_eq_append_iff.1 e with ⟨a', h1, h2⟩ | ⟨c', h1, h2⟩
  · by_cases ha : a' = []
    · subst ha
      exact .inr ⟨[], by simpa using h1.symm, s, hs, by simpa using h2⟩
    · left
      have : 0 < a'.length := List.length_pos_iff.2 ha
      rw [h1, List.length_append]; omega
  · exact .inr ⟨c', h1, s, hs, h2.symm⟩
theorem two_nm (p : List Int) : nmE p 2 = 2 := by simp [nmE, nmE1, mustE, needE]
theorem two_ln (p : List Int) : lnE p 2 = 2 := by simp [lnE, numE, needE]
theorem two_must (b : Bool) : mustE 2 b = 2 := by simp [mustE]
theorem nm_pre (a R q : List Int) (hal : a.length ≤ 20) (h : Pre q ((a.length : Int) :: (a ++ R))) : nmE q 0 = 2 ∨ ∃ q', nmE q 0 = 0 ∧ nmL q 0 = q' ∧ Pre q' R := by
  rcases tk_pre [(a.length : Int)] (a ++ R) q h with h1 | ⟨q1, rfl, h1⟩
  · have : q = [] := List.eq_nil_of_length_eq_zero (by simpa using h1)
    subst this
    left
    rfl
  · have hE1 : nmE1 ([(a.length : Int)] ++ q1) 0 = 0 := by
      have e1 : needE 0 ([(a.length : Int)] ++ q1).length 1 = 0 := by rw [needE, if_neg (by simp)]
      have e2 : byteV ([(a.length : Int)] ++ q1) 0 = a.length := rfl
      rw [nmE1, e1, e2, mustE, if_neg (by simp; omega)]
    have hT : tkL ([(a.length : Int)] ++ q1) 0 1 = q1 := by rw [tkL, if_pos ⟨rfl, by simp⟩]; rfl
    have hB : (byteV ([(a.length : Int)] ++ q1) 0).toNat = a.length := rfl
    rcases tk_pre a R q1 h1 with h2 | ⟨q2, rfl, h2⟩
    · left
      rw [nmE, hE1, hT, hB, needE, if_pos ⟨rfl, h2⟩]
    · right
      refine ⟨q2, ?_, ?_, h2⟩
      · rw [nmE, hE1, hT, hB, needE, if_neg (by simp)]
      · rw [nmL, hE1, hT, hB, tkL, if_pos ⟨rfl, by simp⟩]; simp
theorem ln_pre (T q : List Int) (hT : T.length = 20) (h : Pre q ([64, 20] ++ T)) : lnE q 0 = 2 := by
  rcases tk_pre [64, 20] T q h with h1 | ⟨q1, rfl, h1⟩
  · have hz : rdS q = 0 := by
      match q, h1 with
      | [], _ => rfl
      | [x], _ =>
        obtain ⟨s, _, e⟩ := h
        have : x = 64 := by injection e
        subst this
        decide
      | _ :: _ :: _, h => simp at h; omega
    rw [lnE, numE, if_pos ⟨rfl, hz⟩]; rfl
  · have hs : rdS ([64, 20] ++ q1) = 2 := rdS_wenc (n := 20) (b := 16384) (t := 1) (k := 2) (by unfold IsSize; omega) (by omega) (by omega) q1
    have hn : rdN ([64, 20] ++ q1) = 20 := rdN_wenc (n := 20) (b := 16384) (t := 1) (k := 2) (by unfold IsSize; omega) (by omega) (by omega) q1
    have hl := h1.lt
    have e1 : numE ([64, 20] ++ q1) 0 = 0 := by rw [numE, if_neg (by rw [hs]; omega)]
    have e2 : numN ([64, 20] ++ q1) 0 = 20 := by rw [numN, if_pos ⟨rfl, by rw [hs]; omega⟩, hn]
    have e3 : numL ([64, 20] ++ q1) 0 = q1 := by rw [numL, if_pos rfl, hs]; rfl
    rw [lnE, e1, e2, e3, needE, if_pos ⟨rfl, by show q1.length < 20; omega⟩]
theorem tok_pre (R q : List Int) (h : Pre q ([0] ++ R)) : mustE (numE q 0) (numN q 0 == 0) = 2 ∨ ∃ q', mustE (numE q 0) (numN q 0 == 0) = 0 ∧ numL q 0 = q' ∧ Pre q' R := by
  rcases tk_pre [0] R q h with h1 | ⟨q1, rfl, h1⟩
  · have : q = [] := List.eq_nil_of_length_eq_zero (by simpa using h1)
    subst this
    left
    rfl
  · have hs : rdS ([0] ++ q1) = 1 := rdS_wenc (n := 0) (b := 64) (t := 0) (k := 1) (by unfold IsSize; omega) (by omega) (by omega) q1
    have hn : rdN ([0] ++ q1) = 0 := rdN_wenc (n := 0) (b := 64) (t := 0) (k := 1) (by unfold IsSize; omega) (by omega) (by omega) q1
    have e1 : numE ([0] ++ q1) 0 = 0 := by rw [numE, if_neg (by rw [hs]; omega)]
    have e2 : numN ([0] ++ q1) 0 = 0 := by rw [numN, if_pos ⟨rfl, by rw [hs]; omega⟩, hn]
    have e3 : numL ([0] ++ q1) 0 = q1 := by rw [numL, if_pos rfl, hs]; rfl
    exact .inr ⟨q1, by rw [e1, e2]; rfl, e3, h1⟩
theorem long_cut (lv : Int) (a b T q : List Int) (hlv : lv = 0 ∨ lv = 1) (ha : a.length ≤ 20) (hb : b.length ≤ 20) (hT : T.length = 20)
    (h : Pre q ([195 + 32 * lv] ++ ([0, 0, 0, 1] ++ ((a.length : Int) :: (a ++ ((b.length : Int) :: (b ++ ((if lv = 0 then [0] else []) ++ ([64, 20] ++ T))))))))) : rdErr q = 2 := by
  rcases tk_pre [195 + 32 * lv] _ q h with h1 | ⟨q1, rfl, h1⟩
  · have : q = [] := List.eq_nil_of_length_eq_zero (by simpa using h1)
    subst this
    rfl
  obtain ⟨f, hf⟩ : ∃ f, f = 195 + 32 * lv := ⟨_, rfl⟩
  rw [← hf]
  have hB : byteV ([f] ++ q1) 0 = f := rfl
  have hlt : ¬ f < 128 := by omega
  have hfix : fixOk f = true := by rcases hlv with rfl | rfl <;> subst hf <;> decide
  have hok : lvlOk f = true := by rcases hlv with rfl | rfl <;> subst hf <;> decide
  have hn : needE 0 ([f] ++ q1).length 1 = 0 := by rw [needE, if_neg (by simp)]
  have hE1 : hdE1 ([f] ++ q1) 0 = 0 := by rw [hdE1, hB, hfix, hn]; rfl
  have hP1 : hdP1 ([f] ++ q1) 0 = q1 := by rw [hdP1, tkL, if_pos ⟨rfl, by simp⟩]; rfl
  have hE : hdE ([f] ++ q1) 0 = lgE q1 0 f := by rw [hdE, hB, if_neg hlt, hE1, hP1]
  suffices hs : lgE q1 0 f = 2 by rw [rdErr, hE, hs]; exact two_must _
  have g1 : lgE1 0 f = 0 := by rw [lgE1, hok]; rfl
  have t4 : lgE4 q1 0 f = 2 → lgE q1 0 f = 2 := fun h => by
    rw [lgE, lgE6, lgE5, h, two_nm]
    split
    · rw [show numE (lgP5 q1 0 f) 2 = 2 by simp [numE], two_must]; exact two_ln _
    · exact two_ln _
  have t5 : lgE5 q1 0 f = 2 → lgE q1 0 f = 2 := fun h => by
    rw [lgE, lgE6, h]
    split
    · rw [show numE (lgP5 q1 0 f) 2 = 2 by simp [numE], two_must]; exact two_ln _
    · exact two_ln _
  rcases tk_pre [0, 0, 0, 1] _ q1 h1 with h2 | ⟨q2, hq2, h2⟩
  · refine t4 ?_
    rw [lgE4, lgE3, g1, show needE 0 q1.length 4 = 2 by rw [needE, if_pos ⟨rfl, h2⟩], two_must]
    exact two_nm _
  have hP2 : lgP2 q1 0 f = q2 := by rw [lgP2, g1, hq2, tkL, if_pos ⟨rfl, by simp⟩]; rfl
  have hE3 : lgE3 q1 0 f = 0 := by
    have e : needE 0 q1.length 4 = 0 := by rw [needE, if_neg (by rw [hq2]; simp)]
    have e' : tkO q1 0 4 = [0, 0, 0, 1] := by rw [tkO, if_pos ⟨rfl, by rw [hq2]; simp⟩, hq2]; rfl
    rw [lgE3, g1, e, e']; rfl
  rcases nm_pre a _ q2 ha h2 with e4 | ⟨q3, e4, l4, h3⟩
  · exact t4 (by rw [lgE4, hP2, hE3]; exact e4)
  have hE4 : lgE4 q1 0 f = 0 := by rw [lgE4, hP2, hE3]; exact e4
  have hP4 : lgP4 q1 0 f = q3 := by rw [lgP4, hP2, hE3]; exact l4
  rcases nm_pre b _ q3 hb h3 with e5 | ⟨q4, e5, l5, h4⟩
  · exact t5 (by rw [lgE5, hP4, hE4]; exact e5)
  have hE5 : lgE5 q1 0 f = 0 := by rw [lgE5, hP4, hE4]; exact e5
  have hP5 : lgP5 q1 0 f = q4 := by rw [lgP5, hP4, hE4]; exact l5
  rcases hlv with rfl | rfl
  · have hl : lvl f = 0 := by subst hf; decide
    rw [if_pos rfl] at h4
    rcases tok_pre _ q4 h4 with e6 | ⟨q5, e6, l6, h5⟩
    · rw [lgE, lgE6, if_pos hl, hP5, hE5, e6]; exact two_ln _
    · rw [lgE, lgE6, lgP6, if_pos hl, if_pos hl, hP5, hE5, e6, l6]; exact ln_pre T q5 hT h5
  · have hl : ¬ lvl f = 0 := by subst hf; decide
    rw [if_neg (by decide), List.nil_append] at h4
    rw [lgE, lgE6, lgP6, if_neg hl, if_neg hl, hP5, hE5]
    exact ln_pre T q4 hT h4
theorem longB_cut (lv : Int) (a b : List Int) (pn : Int) (Z : List Int) (k : Nat) (hlv : lv = 0 ∨ lv = 1) (ha : a.length ≤ 20) (hb : b.length ≤ 20) (hZ : Z.length = 16) (hk : k < (longB lv a b pn 16 ++ Z).length) :
    rdErr ((longB lv a b pn 16 ++ Z).take k) = 2 := by
  refine long_cut lv a b (be pn 4 ++ Z) _ hlv ha hb (by rw [List.length_append, be_length, hZ]) ?_
  have h := Pre.of_take (longB lv a b pn 16 ++ Z) k hk
  have e : longB lv a b pn 16 ++ Z = [195 + 32 * lv] ++ ([0, 0, 0, 1] ++ ((a.length : Int) :: (a ++ ((b.length : Int) :: (b ++ ((if lv = 0 then [0] else []) ++ ([64, 20] ++ (be pn 4 ++ Z)))))))) := by
    have w : wenc (4 + 16) 2 = [64, 20] := by decide
    rw [longB, w]
    simp
  rw [← e]
  exact h
end Go.Proofs.YtjibbegdieiknaaDoor

/-
  What Read answers on the whole bytes of a long head, whatever stands behind.
-/
namespace Go.Proofs.YtjibbegdieiknaaDoor
open Go.RowKit
set_option linter.unusedVariables false
set_option linter.unusedSimpArgs false

theorem nm_all (a R : List Int) (hal : a.length ≤ 20) : nmE ((a.length : Int) :: (a ++ R)) 0 = 0 ∧ nmL ((a.length : Int) :: (a ++ R)) 0 = R ∧ nmO ((a.length : Int) :: (a ++ R)) 0 = a := by
  have e1 : needE 0 ((a.length : Int) :: (a ++ R)).length 1 = 0 := by rw [needE, if_neg (by simp)]
  have e2 : byteV ((a.length : Int) :: (a ++ R)) 0 = a.length := rfl
  have hE1 : nmE1 ((a.length : Int) :: (a ++ R)) 0 = 0 := by rw [nmE1, e1, e2, mustE, if_neg (by simp; omega)]
  have hT : tkL ((a.length : Int) :: (a ++ R)) 0 1 = a ++ R := by rw [tkL, if_pos ⟨rfl, by simp⟩]; rfl
  have hB : (byteV ((a.length : Int) :: (a ++ R)) 0).toNat = a.length := rfl
  refine ⟨?_, ?_, ?_⟩
  · rw [nmE, hE1, hT, hB, needE, if_neg (by simp)]
  · rw [nmL, hE1, hT, hB, tkL, if_pos ⟨rfl, by simp⟩]; simp
  · rw [nmO, hE1, hT, hB, tkO, if_pos ⟨rfl, by simp⟩]; simp
theorem ln_all (M : Int) (T : List Int) (h0 : 0 ≤ M) (h1 : M < 16384) (hT : M ≤ T.length) : lnE (wenc M 2 ++ T) 0 = 0 ∧ lnV (wenc M 2 ++ T) 0 = M ∧ numL (wenc M 2 ++ T) 0 = T := by
  have hk : IsSize 2 2 16384 1 := by unfold IsSize; omega
  have hs : rdS (wenc M 2 ++ T) = 2 := rdS_wenc hk h0 h1 T
  have hn : rdN (wenc M 2 ++ T) = M := rdN_wenc hk h0 h1 T
  have e1 : numE (wenc M 2 ++ T) 0 = 0 := by rw [numE, if_neg (by rw [hs]; omega)]
  have e2 : numN (wenc M 2 ++ T) 0 = M := by rw [numN, if_pos ⟨rfl, by rw [hs]; omega⟩, hn]
  have e3 : numL (wenc M 2 ++ T) 0 = T := by rw [numL, if_pos rfl, hs]; exact drop_wenc hk T
  have e4 : lnE (wenc M 2 ++ T) 0 = 0 := by rw [lnE, e1, e2, e3, needE, if_neg (by omega)]
  exact ⟨e4, by rw [lnV, if_pos e4, e2], e3⟩
theorem tok_all (R : List Int) : mustE (numE ([0] ++ R) 0) (numN ([0] ++ R) 0 == 0) = 0 ∧ numL ([0] ++ R) 0 = R := by
  have hs : rdS ([0] ++ R) = 1 := rdS_wenc (n := 0) (b := 64) (t := 0) (k := 1) (by unfold IsSize; omega) (by omega) (by omega) R
  have hn : rdN ([0] ++ R) = 0 := rdN_wenc (n := 0) (b := 64) (t := 0) (k := 1) (by unfold IsSize; omega) (by omega) (by omega) R
  have e1 : numE ([0] ++ R) 0 = 0 := by rw [numE, if_neg (by rw [hs]; omega)]
  have e2 : numN ([0] ++ R) 0 = 0 := by rw [numN, if_pos ⟨rfl, by rw [hs]; omega⟩, hn]
  exact ⟨by rw [e1, e2]; rfl, by rw [numL, if_pos rfl, hs]; rfl⟩
theorem first_of (lv s : Int) (hlv : lv = 0 ∨ lv = 1) (hs : 1 ≤ s ∧ s ≤ 4) : ¬ 191 + 32 * lv + s < 128 ∧ fixOk (191 + 32 * lv + s) = true ∧ lvlOk (191 + 32 * lv + s) = true ∧ lvl (191 + 32 * lv + s) = lv := by
  have : s = 1 ∨ s = 2 ∨ s = 3 ∨ s = 4 := by omega
  rcases hlv with rfl | rfl <;> rcases this with rfl | rfl | rfl | rfl <;> exact ⟨by omega, by decide, by decide, by decide⟩
theorem long_allF (f lv M : Int) (a b T : List Int) (hlv : lv = 0 ∨ lv = 1) (hlt : ¬ f < 128) (hfix : fixOk f = true) (hok : lvlOk f = true) (hll : lvl f = lv) (ha : a.length ≤ 20) (hb : b.length ≤ 20) (hM : 20 ≤ M ∧ M < 16384) (hT : M ≤ T.length) (q : List Int)
    (hq : q = [f] ++ ([0, 0, 0, 1] ++ ((a.length : Int) :: (a ++ ((b.length : Int) :: (b ++ ((if lv = 0 then [0] else []) ++ (wenc M 2 ++ T)))))))) :
    rdErr q = 0 ∧ hdV q 0 = M ∧ rdLeft q = T ∧ hdLong q 0 = true ∧ hdLvl q 0 = lv ∧ hdTo q 0 = a ∧ hdFr q 0 = b := by
  obtain ⟨q1, hq1⟩ : ∃ q1, q1 = [0, 0, 0, 1] ++ ((a.length : Int) :: (a ++ ((b.length : Int) :: (b ++ ((if lv = 0 then [0] else []) ++ (wenc M 2 ++ T)))))) := ⟨_, rfl⟩
  rw [← hq1] at hq
  have hB : byteV q 0 = f := by rw [hq]; rfl
  have hn : needE 0 q.length 1 = 0 := by rw [needE, if_neg (by rw [hq]; simp)]
  have hE1 : hdE1 q 0 = 0 := by rw [hdE1, hB, hfix, hn]; rfl
  have hP1 : hdP1 q 0 = q1 := by rw [hdP1, tkL, if_pos ⟨rfl, by rw [hq]; simp⟩, hq]; rfl
  have g1 : lgE1 0 f = 0 := by rw [lgE1, hok]; rfl
  obtain ⟨q2, hq2⟩ : ∃ q2, q2 = (a.length : Int) :: (a ++ ((b.length : Int) :: (b ++ ((if lv = 0 then [0] else []) ++ (wenc M 2 ++ T))))) := ⟨_, rfl⟩
  rw [← hq2] at hq1
  have hP2 : lgP2 q1 0 f = q2 := by rw [lgP2, g1, hq1, tkL, if_pos ⟨rfl, by simp⟩]; rfl
  have hE3 : lgE3 q1 0 f = 0 := by
    have e : needE 0 q1.length 4 = 0 := by rw [needE, if_neg (by rw [hq1]; simp)]
    have e' : tkO q1 0 4 = [0, 0, 0, 1] := by rw [tkO, if_pos ⟨rfl, by rw [hq1]; simp⟩, hq1]; rfl
    rw [lgE3, g1, e, e']; rfl
  obtain ⟨q3, hq3⟩ : ∃ q3, q3 = (b.length : Int) :: (b ++ ((if lv = 0 then [0] else []) ++ (wenc M 2 ++ T))) := ⟨_, rfl⟩
  rw [← hq3] at hq2
  obtain ⟨n1, n2, n3⟩ := nm_all a q3 ha
  rw [← hq2] at n1 n2 n3
  have hE4 : lgE4 q1 0 f = 0 := by rw [lgE4, hP2, hE3]; exact n1
  have hP4 : lgP4 q1 0 f = q3 := by rw [lgP4, hP2, hE3]; exact n2
  have hTo : lgTo q1 0 f = a := by rw [lgTo, hP2, hE3]; exact n3
  obtain ⟨q4, hq4⟩ : ∃ q4, q4 = (if lv = 0 then [0] else []) ++ (wenc M 2 ++ T) := ⟨_, rfl⟩
  rw [← hq4] at hq3
  obtain ⟨m1, m2, m3⟩ := nm_all b q4 hb
  rw [← hq3] at m1 m2 m3
  have hE5 : lgE5 q1 0 f = 0 := by rw [lgE5, hP4, hE4]; exact m1
  have hP5 : lgP5 q1 0 f = q4 := by rw [lgP5, hP4, hE4]; exact m2
  have hFr : lgFr q1 0 f = b := by rw [lgFr, hP4, hE4]; exact m3
  obtain ⟨k1, k2, k3⟩ := ln_all M T (by omega) hM.2 hT
  have h6 : lgE6 q1 0 f = 0 ∧ lgP6 q1 0 f = wenc M 2 ++ T := by
    rcases hlv with rfl | rfl
    · rw [if_pos rfl] at hq4
      obtain ⟨t1, t2⟩ := tok_all (wenc M 2 ++ T)
      rw [← hq4] at t1 t2
      exact ⟨by rw [lgE6, if_pos hll, hP5, hE5]; exact t1, by rw [lgP6, if_pos hll, hP5, hE5]; exact t2⟩
    · rw [if_neg (by decide), List.nil_append] at hq4
      exact ⟨by rw [lgE6, if_neg (by rw [hll]; decide), hE5], by rw [lgP6, if_neg (by rw [hll]; decide), hP5, hq4]⟩
  have hE : hdE q 0 = 0 := by rw [hdE, hB, if_neg hlt, hE1, hP1, lgE, h6.1, h6.2]; exact k1
  have hV : hdV q 0 = M := by rw [hdV, hB, if_neg hlt, hE1, hP1, lgV, h6.1, h6.2]; exact k2
  have hP : hdP q 0 = T := by rw [hdP, hB, if_neg hlt, hE1, hP1, lgP, h6.1, h6.2]; exact k3
  have hR : rdErr q = 0 := by rw [rdErr, hE, hV, decide_eq_true hM.1]; rfl
  refine ⟨hR, hV, by rw [rdLeft, hR, hP]; rfl, ?_, ?_, ?_, ?_⟩
  · rw [hdLong, hB]; simp; omega
  · rw [hdLvl, hB, if_neg hlt, hll]
  · rw [hdTo, hB, if_neg hlt, hE1, hP1, hTo]
  · rw [hdFr, hB, if_neg hlt, hE1, hP1, hFr]
theorem long_all (lv s M : Int) (a b T : List Int) (hlv : lv = 0 ∨ lv = 1) (hs : 1 ≤ s ∧ s ≤ 4) (ha : a.length ≤ 20) (hb : b.length ≤ 20) (hM : 20 ≤ M ∧ M < 16384) (hT : M ≤ T.length) (q : List Int)
    (hq : q = [191 + 32 * lv + s] ++ ([0, 0, 0, 1] ++ ((a.length : Int) :: (a ++ ((b.length : Int) :: (b ++ ((if lv = 0 then [0] else []) ++ (wenc M 2 ++ T)))))))) :
    rdErr q = 0 ∧ hdV q 0 = M ∧ rdLeft q = T ∧ hdLong q 0 = true ∧ hdLvl q 0 = lv ∧ hdTo q 0 = a ∧ hdFr q 0 = b := by
  obtain ⟨hlt, hfix, hok, hll⟩ := first_of lv s hlv hs
  exact long_allF _ lv M a b T hlv hlt hfix hok hll ha hb hM hT q hq
/-- The whole packet of a head with a number of four bytes, whatever stands behind it. -/
theorem longB_all (lv : Int) (a b : List Int) (pn L : Int) (Z R : List Int) (hlv : lv = 0 ∨ lv = 1) (ha : a.length ≤ 20) (hb : b.length ≤ 20) (hL : 16 ≤ L ∧ L ≤ 16379) (hZ : (Z.length : Int) = L) :
    rdErr (longB lv a b pn L ++ Z ++ R) = 0 ∧ rdAt (longB lv a b pn L ++ Z ++ R) + hdV (longB lv a b pn L ++ Z ++ R) 0 = ((longB lv a b pn L ++ Z).length : Int) := by
  have hbl : (be pn 4).length = 4 := be_length _ _
  obtain ⟨h1, h2, h3, _⟩ := long_all lv 4 (4 + L) a b (be pn 4 ++ (Z ++ R)) hlv (by omega) ha hb (by omega) (by simp only [List.length_append, hbl]; omega) (longB lv a b pn L ++ Z ++ R) (by
    rw [longB, show (195 + 32 * lv : Int) = 191 + 32 * lv + 4 by omega]
    simp)
  refine ⟨h1, ?_⟩
  rw [rdAt, h2, h3]
  simp only [List.length_append, hbl]
  omega
end Go.Proofs.YtjibbegdieiknaaDoor
