/-
  The reference's Right (made by mkWrdC.py).
-/
import Derived.Test.YtfedofoadfipcaaDoorWrdB
import Derived.Test.YtfedofoadfipcaaDoorWordK
import Derived.Deep.RegionHeld
import Derived.Deep.MidRow
import Derived.Laws.Strings
import Derived.Laws.Strings2
namespace Go.Proofs.YtfedofoadfipcaaDoor
open Go.RowKit
set_option linter.unusedVariables false
set_option linter.unusedSimpArgs false
def numsM (m : MV) : List Int := [m.id, m.alias_, m.code, m.n, m.ver, m.sg, m.so, m.eg, m.eo] ++ m.vers
def okC (c : Nat) (m : MV) : Bool :=
  match c with
  | 116 => decide (1 ≤ m.name.length) && decide (m.name.length ≤ 32)
  | 111 => decide (m.ord = 1) || decide (m.ord = 2)
  | 103 => decide (m.eg = 0) || decide (m.sg < m.eg)
  | 101 => !lessB m.eg m.eo m.sg m.so
  | 98 => m.some_ || (decide (m.sg = 0) && decide (m.so = 0))
  | 108 => decide (1 ≤ m.vers.length) && decide (m.vers.length ≤ 8)
  | _ => true
def lettersOk (s : ByteArray) (m : MV) : Bool := (List.range s.size).all fun j => okC (chW s j) m
def rightM (m : MV) : Bool := knW m.kind && sameMB m (onlyM m) && decide (m.reason.length ≤ 64) && (numsM m).all (fun x => decide (x ≤ 4611686018427387903)) && lettersOk (shapeW m.kind) m
theorem onlyR_facts {s : ByteArray} {m : MV} (y1 : Bytes m.name) (y2 : Bytes m.reason) (l1 : m.vers.length ≤ 1000000) : ∀ j, Bytes (onlyR s m j).name ∧ Bytes (onlyR s m j).reason ∧ (onlyR s m j).vers.length ≤ 1000000
  | 0 => ⟨Bytes.nil, Bytes.nil, Nat.zero_le _⟩
  | j + 1 => by
    have ih := onlyR_facts (s := s) y1 y2 l1 j
    show Bytes (setC (chW s j) m (onlyR s m j)).name ∧ Bytes (setC (chW s j) m (onlyR s m j)).reason ∧ (setC (chW s j) m (onlyR s m j)).vers.length ≤ 1000000
    generalize onlyR s m j = d at ih ⊢
    unfold setC
    split <;> first | exact ih | exact ⟨y1, ih.2⟩ | exact ⟨ih.1, y2, ih.2.2⟩ | exact ⟨ih.1, ih.2.1, l1⟩
theorem only_facts {m : MV} (y1 : Bytes m.name) (y2 : Bytes m.reason) (l1 : m.vers.length ≤ 1000000) : Bytes (onlyM m).name ∧ Bytes (onlyM m).reason ∧ (onlyM m).vers.length ≤ 1000000 := onlyR_facts y1 y2 l1 _
theorem letters_no {s : ByteArray} {m : MV} {pos : Nat} (h : pos < s.size) (hk : okC (chW s pos) m = false) : lettersOk s m = false := by
  rw [Bool.eq_false_iff]
  intro e
  have := List.all_eq_true.1 e pos (List.mem_range.2 h)
  rw [hk] at this
  cases this
theorem letters_yes {s : ByteArray} {m : MV} (hk : ∀ j, j < s.size → okC (chW s j) m = true) : lettersOk s m = true :=
  List.all_eq_true.2 fun j hj => hk j (List.mem_range.1 hj)
/-- Where Right's loop over the letters stands. -/
structure RightI (w wr : World) (gi : Nat) (s : ByteArray) (m : MV) (nA : Option Addr) (nc : Nat) (rA : Option Addr) (rc : Nat) (vA : Option Addr) (vc : Nat) (pos : Nat) : Prop where
  km : Blk wr w.heap.size 28 (mvC m nA nc rA rc vA vc)
  it : It wr gi s pos
  lt : w.heap.size < gi
  bel : Below w.heap.size w wr
  le : pos ≤ s.size
  ok : ∀ j, j < pos → okC (chW s j) m = true
theorem shape_none {k : Int} (h : knW k = false) : shapeW k = ⟨#[45]⟩ := by
  rcases kindW_ways k with h2 | h2
  · rcases h2 with rfl | rfl | rfl | rfl | rfl | rfl | rfl | rfl | rfl | rfl | rfl | rfl | rfl | rfl | rfl | rfl | rfl <;> exact absurd h (by decide)
  · obtain ⟨kn, fo, q3, q4, q5, q6, q7, q8, q9, q10, q11, q16, q21, q22, q23, q24, q25, q32, q33⟩ := h2
    simp only [beq_eq_false_iff_ne] at q3 q4 q5 q6 q7 q8 q9 q10 q11 q16 q21 q22 q23 q24 q25 q32 q33
    unfold shapeW
    simp [*]
theorem shape_some {k : Int} (h : knW k = true) : shapeW k ≠ ⟨#[45]⟩ := by
  have hk : k ∈ kindsW := by simpa [knW] using h
  have : ∀ k ∈ kindsW, shapeW k ≠ ⟨#[45]⟩ := by decide +kernel
  exact this k hk
theorem wpList_appUX {ops : Array Oper} {rest : List Oper} {o : Oper} {a : Act} {w : World} {Q : Exit → Act → World → Prop} (hgd : o.guard = none) (s x : Operand)
    (ho : o.op = .call { callee := .builtin .append, args := #[s, x], argTypes := #[26, 26] })
    (base : Nat) {c d : Nat} {A B : Option Addr} {l news : List Int} (X : List Int) (hX : X = l ++ news) (hs : a.eval s = .slice A l.length c) (hx : a.eval x = .slice B news.length d) (hown : OwnU w base A c l) (hr : RdI .u64 w B news)
    (hlen : l.length + news.length ≤ 8000000) (hbase : base ≤ w.heap.size)
    (h : ∀ A' c' w', OwnU w' base A' c' X → w.grownBy w' (Value.slice A l.length c).ownBlock → Below base w w' → wpList Tryd.prog ops Q rest (a.put o.dst (.slice A' X.length c')) w') : wpList Tryd.prog ops Q (o :: rest) a w := by
  subst hX
  refine wpList_appV hgd s x 26 22 1 8 (.int .u64 0) ho Tryd.underlying26 info_u64W rfl (by omega) base hs hx hown hr (by intro u hu; simp only [IV, List.mem_map] at hu; obtain ⟨x, _, rfl⟩ := hu; rfl) (by unfold maxLen; omega) (by omega) hbase ?_
  intro A' c' w' h1 h2 h3
  have := h A' c' w' (by unfold OwnU; rw [IV_append, List.length_append]; exact h1) h2 h3
  rwa [List.length_append] at this
theorem own_9W (w : World) (a b c d e f g h i : Int) {base : Nat} (hb : base ≤ w.heap.size) : OwnV (w.alloc (.cells #[.int .u64 a, .int .u64 b, .int .u64 c, .int .u64 d, .int .u64 e, .int .u64 f, .int .u64 g, .int .u64 h, .int .u64 i] 22)) base 22 1 (some ⟨w.heap.size, 0, none⟩) 9 9 (IV .u64 [a, b, c, d, e, f, g, h, i]) :=
  Blk.own (Blk.new w 22 #[.int .u64 a, .int .u64 b, .int .u64 c, .int .u64 d, .int .u64 e, .int .u64 f, .int .u64 g, .int .u64 h, .int .u64 i]) hb (by simp [maxLen]) rfl
set_option maxRecDepth 100000 in
set_option maxHeartbeats 6400000 in
theorem refRight_any (m : MV) (nA : Option Addr) (nc : Nat) (rA : Option Addr) (rc : Nat) (vA : Option Addr) (vc : Nat) (w : World) (hn : Rd w nA m.name) (hr : Rd w rA m.reason) (hv : RdI .u64 w vA m.vers)
    (y1 : Bytes m.name) (y2 : Bytes m.reason) (l1 : m.vers.length ≤ 1000000) (l2 : m.reason.length ≤ 1000000) (l3 : m.name.length ≤ 1000000) :
    Calls Tryd.prog 27 #[.agg (mvC m nA nc rA rc vA vc)] w fun r w' => r = .returned (.bool (rightM m)) ∧ Below w.heap.size w w' := by
  obtain ⟨W, hW⟩ : ∃ W, W = w.alloc (.cells #[.int .u64 m.kind, .int .u64 m.id, .int .u64 m.alias_, .slice nA m.name.length nc, .int .u8 m.prio, .int .u8 m.ord, .int .u64 m.sg, .int .u64 m.so, .int .u64 m.eg, .int .u64 m.eo, .bool m.some_, .int .u64 m.code, .slice rA m.reason.length rc, .int .u64 m.n, .int .u64 m.ver, .slice vA m.vers.length vc] 28) := ⟨_, rfl⟩
  have KM := Lib.hid (show Blk W w.heap.size 28 (mvC m nA nc rA rc vA vc) by rw [hW]; exact Blk.new _ _ _)
  have BM := Lib.hid (show Below w.heap.size w W by rw [hW]; exact (Below.refl _ _).alloc (Nat.le_refl _) _)
  have HRD := Lib.hid (And.intro hn (And.intro hr hv))
  have CO := Lib.hid (fun W' (hb : Below w.heap.size w W') => refOnly_any m nA nc rA rc vA vc W' (Rd.below hn hb) (Rd.below hr hb) (RdI.below hv hb))
  have hbO : Bytes (onlyM m).name ∧ Bytes (onlyM m).reason ∧ (onlyM m).vers.length ≤ 1000000 := only_facts y1 y2 l1
  have CS2 := Lib.hid (fun nA' nc' rA' rc' vA' vc' w5 w0 (r1 : Rd w0 nA' (onlyM m).name) (r2 : Rd w0 rA' (onlyM m).reason) (r3 : RdI .u64 w0 vA' (onlyM m).vers) (b5 : Below w0.heap.size w0 w5) (hb : Below w.heap.size w w5) =>
    sameW_any m (onlyM m) nA nc rA rc vA vc nA' nc' rA' rc' vA' vc' w5 (Rd.below hn hb) (Rd.below hr hb) (RdI.below hv hb) (Rd.below r1 b5) (Rd.below r2 b5) (RdI.below r3 b5) y1 y2 hbO.1 hbO.2.1 l1 hbO.2.2)
  obtain ⟨s, hs⟩ : ∃ s, s = shapeW m.kind := ⟨_, rfl⟩
  have CS := Lib.hid (fun W' => refShape_any m.kind W')
  rw [← hs] at CS
  have HL := Lib.hid (show ∀ (j : Nat) (h : j < s.size), (s[j]'h).toNat ∈ lettersW by rw [hs]; exact shape_letters m.kind)
  obtain ⟨kn, hkn⟩ : ∃ kn, kn = knW m.kind := ⟨_, rfl⟩
  obtain ⟨sm, hsm⟩ : ∃ sm, sm = sameMB m (onlyM m) := ⟨_, rfl⟩
  obtain ⟨R, hR⟩ : ∃ R, R = rightM m := ⟨_, rfl⟩
  rw [← hR]
  unfold rightM at hR
  rw [← hs, ← hkn, ← hsm] at hR
  rw [← hsm] at CS2
  have HR := Lib.hid hR
  have HKN := Lib.hid hkn
  have HS := Lib.hid hs
  have HW := Lib.hid hW
  unfold mvC
  clear hW hR hs hkn hsm hn hr hv y1 y2 hbO
  go_enter Tryd.func27, Tryd.ntmps27
  go_wp2_with fail
  rw [← HW.out]
  refine (CS.out W).mono ?_
  rintro e w0 ⟨rfl, hh⟩
  subst hh
  clear CS
  go_upto_region 2 with (fail)
  cases kn with
  | false =>
    have hs45 : s = ⟨#[45]⟩ := by rw [HS.out]; exact shape_none HKN.out.symm
    have hnl : s.toList = [45] := by rw [hs45, ByteArray.toList_eq]
    refine wp_region_held_drew (S := (fun w' => Blk w' w.heap.size 28 (mvC m nA nc rA rc vA vc) ∧ Below w.heap.size w w')) (by kernel_rfl) ⟨KM.out.drew, BM.out.drew⟩ (fun s0 => ?_)
    refine wpAnyH_take (i := 0) (oi := ⟨_, _, _, _, _, _⟩) (v := .string s) rfl (by kernel_rfl) (by kernel_rfl) (by kernel_rfl) (fun _ _ _ h => h) (Or.inl ⟨by rfl, fun w' hS => by go_simp⟩) s0 ?_
    simp only [Act.put, List.setIfInBounds_toArray, List.set_cons_zero, List.set_cons_succ]
    refine wpAnyH_take (i := 1) (oi := ⟨_, _, _, _, _, _⟩) (v := .bool true) rfl (by kernel_rfl) (by kernel_rfl) (by kernel_rfl) (fun _ _ _ h => h) (Or.inl ⟨by rfl, fun w' hS => by go_simp⟩) s0 ?_
    simp only [Act.put, List.setIfInBounds_toArray, List.set_cons_zero, List.set_cons_succ]
    refine wpAnyH_take (i := 2) (oi := ⟨_, _, _, _, _, _⟩) (v := .bool true) rfl (by kernel_rfl) (by kernel_rfl) (by kernel_rfl) (fun _ _ _ h => h) (Or.inl ⟨by rfl, fun w' hS => by go_simp⟩) s0 ?_
    simp only [Act.put, List.setIfInBounds_toArray, List.set_cons_zero, List.set_cons_succ]
    refine wpAnyH_take (i := 3) (oi := ⟨_, _, _, _, _, _⟩) (v := undef) rfl (by kernel_rfl) (by kernel_rfl) (by kernel_rfl) (fun _ _ _ h => h) (Or.inr ⟨by rfl, rfl⟩) s0 ?_
    simp only [Act.put, List.setIfInBounds_toArray, List.set_cons_zero, List.set_cons_succ]
    refine wpAnyH_take (i := 4) (oi := ⟨_, _, _, _, _, _⟩) (v := undef) rfl (by kernel_rfl) (by kernel_rfl) (by kernel_rfl) (fun _ _ _ h => h) (Or.inr ⟨by rfl, rfl⟩) s0 ?_
    simp only [Act.put, List.setIfInBounds_toArray, List.set_cons_zero, List.set_cons_succ]
    refine wpAnyH_ready (rs := [5]) (by kernel_rfl) (by simp) ?_
    refine AllReadyH.cons rfl (fun K hK => ?_) AllReadyH.nil
    rw [if_neg (c := Region.wanted _ _ = true) (by intro h; exact absurd (show false = true from h) (by decide))]
    simp only [List.getElem_toArray, List.getElem_cons_succ, List.getElem_cons_zero, Act.put, List.setIfInBounds_toArray, List.set_cons_succ, List.set_cons_zero]
    refine hK.out _ _ s0 (fun s5 => ?_)
    clear hK K s0
    refine wpAnyH_ready (rs := [6]) (by kernel_rfl) (by simp) ?_
    refine AllReadyH.cons rfl (fun K hK => ?_) AllReadyH.nil
    rw [if_neg (c := Region.wanted _ _ = true) (by intro h; exact absurd (show false = true from h) (by decide))]
    simp only [List.getElem_toArray, List.getElem_cons_succ, List.getElem_cons_zero, Act.put, List.setIfInBounds_toArray, List.set_cons_succ, List.set_cons_zero]
    refine hK.out _ _ s5 (fun s6 => ?_)
    clear hK K s5
    refine wpAnyH_take (i := 7) (oi := ⟨_, _, _, _, _, _⟩) (v := undef) rfl (by kernel_rfl) (by kernel_rfl) (by kernel_rfl) (fun _ _ _ h => h) (Or.inr ⟨by rfl, rfl⟩) s6 ?_
    simp only [Act.put, List.setIfInBounds_toArray, List.set_cons_zero, List.set_cons_succ]
    refine wpAnyH_take (i := 8) (oi := ⟨_, _, _, _, _, _⟩) (v := .bool true) rfl (by kernel_rfl) (by kernel_rfl) (by kernel_rfl) (fun _ _ _ h => h) (Or.inl ⟨by rfl, fun w' hS => by go_simp⟩) s6 ?_
    simp only [Act.put, List.setIfInBounds_toArray, List.set_cons_zero, List.set_cons_succ]
    refine wpAnyH_take (i := 9) (oi := ⟨_, _, _, _, _, _⟩) (v := .bool true) rfl (by kernel_rfl) (by kernel_rfl) (by kernel_rfl) (fun _ _ _ h => h) (Or.inl ⟨by rfl, fun w' hS => by go_simp⟩) s6 ?_
    simp only [Act.put, List.setIfInBounds_toArray, List.set_cons_zero, List.set_cons_succ]
    refine wpAnyH_take (i := 10) (oi := ⟨_, _, _, _, _, _⟩) (v := undef) rfl (by kernel_rfl) (by kernel_rfl) (by kernel_rfl) (fun _ _ _ h => h) (Or.inr ⟨by rfl, rfl⟩) s6 ?_
    simp only [Act.put, List.setIfInBounds_toArray, List.set_cons_zero, List.set_cons_succ]
    refine wpAnyH_take (i := 11) (oi := ⟨_, _, _, _, _, _⟩) (v := undef) rfl (by kernel_rfl) (by kernel_rfl) (by kernel_rfl) (fun _ _ _ h => h) (Or.inr ⟨by rfl, rfl⟩) s6 ?_
    simp only [Act.put, List.setIfInBounds_toArray, List.set_cons_zero, List.set_cons_succ]
    refine wpAnyH_take (i := 12) (oi := ⟨_, _, _, _, _, _⟩) (v := undef) rfl (by kernel_rfl) (by kernel_rfl) (by kernel_rfl) (fun _ _ _ h => h) (Or.inr ⟨by rfl, rfl⟩) s6 ?_
    simp only [Act.put, List.setIfInBounds_toArray, List.set_cons_zero, List.set_cons_succ]
    refine wpAnyH_take (i := 13) (oi := ⟨_, _, _, _, _, _⟩) (v := undef) rfl (by kernel_rfl) (by kernel_rfl) (by kernel_rfl) (fun _ _ _ h => h) (Or.inr ⟨by rfl, rfl⟩) s6 ?_
    simp only [Act.put, List.setIfInBounds_toArray, List.set_cons_zero, List.set_cons_succ]
    refine wpAnyH_take (i := 14) (oi := ⟨_, _, _, _, _, _⟩) (v := .bool true) rfl (by kernel_rfl) (by kernel_rfl) (by kernel_rfl) (fun _ _ _ h => h) (Or.inl ⟨by rfl, fun w' hS => by go_simp⟩) s6 ?_
    simp only [Act.put, List.setIfInBounds_toArray, List.set_cons_zero, List.set_cons_succ]
    refine wpAnyH_done (by kernel_rfl) ?_ _
    go_wp2_with fail
    go_ret
    exact ⟨by rw [HR.out]; simp, s6.2⟩
  | true =>
    have hne : s ≠ ⟨#[45]⟩ := by rw [HS.out]; exact shape_some HKN.out.symm
    have hnl : ¬ s.toList = [45] := by
      intro e
      apply hne
      rw [ByteArray.toList_eq] at e
      obtain ⟨d⟩ := s
      congr 1
      exact Array.toList_inj.1 e
    cases sm with
    | false =>
      refine wp_region_held_drew (S := (fun w' => Blk w' w.heap.size 28 (mvC m nA nc rA rc vA vc) ∧ Below w.heap.size w w')) (by kernel_rfl) ⟨KM.out.drew, BM.out.drew⟩ (fun s0 => ?_)
      refine wpAnyH_take (i := 0) (oi := ⟨_, _, _, _, _, _⟩) (v := .string s) rfl (by kernel_rfl) (by kernel_rfl) (by kernel_rfl) (fun _ _ _ h => h) (Or.inl ⟨by rfl, fun w' hS => by go_simp⟩) s0 ?_
      simp only [Act.put, List.setIfInBounds_toArray, List.set_cons_zero, List.set_cons_succ]
      refine wpAnyH_take (i := 1) (oi := ⟨_, _, _, _, _, _⟩) (v := .bool false) rfl (by kernel_rfl) (by kernel_rfl) (by kernel_rfl) (fun _ _ _ h => h) (Or.inl ⟨by rfl, fun w' hS => by go_simp⟩) s0 ?_
      simp only [Act.put, List.setIfInBounds_toArray, List.set_cons_zero, List.set_cons_succ]
      refine wpAnyH_take (i := 2) (oi := ⟨_, _, _, _, _, _⟩) (v := .bool false) rfl (by kernel_rfl) (by kernel_rfl) (by kernel_rfl) (fun _ _ _ h => h) (Or.inl ⟨by rfl, fun w' hS => by go_simp⟩) s0 ?_
      simp only [Act.put, List.setIfInBounds_toArray, List.set_cons_zero, List.set_cons_succ]
      refine wpAnyH_take (i := 3) (oi := ⟨_, _, _, _, _, _⟩) rfl (by kernel_rfl) (by kernel_rfl) (by kernel_rfl) (fun _ _ _ h => h) (yieldsIf_load_mid (by rfl) 28 (.tmp 1) rfl w.heap.size 0 rfl [.int .u64 m.kind, .int .u64 m.id, .int .u64 m.alias_, .slice nA m.name.length nc, .int .u8 m.prio, .int .u8 m.ord, .int .u64 m.sg, .int .u64 m.so, .int .u64 m.eg, .int .u64 m.eo, .bool m.some_, .int .u64 m.code, .slice rA m.reason.length rc, .int .u64 m.n, .int .u64 m.ver, .slice vA m.vers.length vc] _ (fun w' hS => range_blk hS.1) Tryd.underlying28 rfl info_rmsg) s0 ?_
      simp only [Act.put, List.setIfInBounds_toArray, List.set_cons_zero, List.set_cons_succ]
      refine wpAnyH_take (i := 4) (oi := ⟨_, _, _, _, _, _⟩) rfl (by kernel_rfl) (by kernel_rfl) (by kernel_rfl) (fun _ _ _ h => h) (yieldsIf_load_mid (by rfl) 28 (.tmp 1) rfl w.heap.size 0 rfl [.int .u64 m.kind, .int .u64 m.id, .int .u64 m.alias_, .slice nA m.name.length nc, .int .u8 m.prio, .int .u8 m.ord, .int .u64 m.sg, .int .u64 m.so, .int .u64 m.eg, .int .u64 m.eo, .bool m.some_, .int .u64 m.code, .slice rA m.reason.length rc, .int .u64 m.n, .int .u64 m.ver, .slice vA m.vers.length vc] _ (fun w' hS => range_blk hS.1) Tryd.underlying28 rfl info_rmsg) s0 ?_
      simp only [Act.put, List.setIfInBounds_toArray, List.set_cons_zero, List.set_cons_succ]
      refine wpAnyH_ready (rs := [5]) (by kernel_rfl) (by simp) ?_
      refine AllReadyH.cons rfl (fun K hK => ?_) AllReadyH.nil
      go_simp
      refine (CO.out _ s0.2).mono ?_
      rintro e w5 h5
      obtain ⟨nA', nc', rA', rc', vA', vc', rfl, r1, r2, r3⟩ := h5.ok
      have b5 := h5.bel
      have q5 : Blk w5 w.heap.size 28 (mvC m nA nc rA rc vA vc) ∧ Below w.heap.size w w5 := ⟨s0.1.below b5 s0.1.lt, s0.2.trans (b5.mono s0.2.size)⟩
      have CSm := Lib.hid (CS2.out nA' nc' rA' rc' vA' vc' w5 _ r1 r2 r3 b5 q5.2)
      unfold mvC
      refine hK.out _ _ q5 (fun s5 => ?_)
      clear hK K s0 r1 r2 r3 h5 b5
      unfold mvC at CSm
      refine wpAnyH_ready (rs := [6]) (by kernel_rfl) (by simp) ?_
      refine AllReadyH.cons rfl (fun K hK => ?_) AllReadyH.nil
      go_simp
      refine CSm.out.mono ?_
      rintro e w6 ⟨rfl, b6⟩
      have q6 : Blk w6 w.heap.size 28 (mvC m nA nc rA rc vA vc) ∧ Below w.heap.size w w6 := ⟨s5.1.below b6 s5.1.lt, s5.2.trans (b6.mono s5.2.size)⟩
      refine hK.out _ _ q6 (fun s6 => ?_)
      clear hK K s5 b6 q6 q5 CSm
      refine wpAnyH_take (i := 7) (oi := ⟨_, _, _, _, _, _⟩) (v := .bool true) rfl (by kernel_rfl) (by kernel_rfl) (by kernel_rfl) (fun _ _ _ h => h) (Or.inl ⟨by rfl, fun w' hS => by go_simp⟩) s6 ?_
      simp only [Act.put, List.setIfInBounds_toArray, List.set_cons_zero, List.set_cons_succ]
      refine wpAnyH_take (i := 8) (oi := ⟨_, _, _, _, _, _⟩) (v := .bool true) rfl (by kernel_rfl) (by kernel_rfl) (by kernel_rfl) (fun _ _ _ h => h) (Or.inl ⟨by rfl, fun w' hS => by go_simp⟩) s6 ?_
      simp only [Act.put, List.setIfInBounds_toArray, List.set_cons_zero, List.set_cons_succ]
      refine wpAnyH_take (i := 9) (oi := ⟨_, _, _, _, _, _⟩) (v := .bool true) rfl (by kernel_rfl) (by kernel_rfl) (by kernel_rfl) (fun _ _ _ h => h) (Or.inl ⟨by rfl, fun w' hS => by go_simp⟩) s6 ?_
      simp only [Act.put, List.setIfInBounds_toArray, List.set_cons_zero, List.set_cons_succ]
      refine wpAnyH_take (i := 10) (oi := ⟨_, _, _, _, _, _⟩) (v := undef) rfl (by kernel_rfl) (by kernel_rfl) (by kernel_rfl) (fun _ _ _ h => h) (Or.inr ⟨by rfl, rfl⟩) s6 ?_
      simp only [Act.put, List.setIfInBounds_toArray, List.set_cons_zero, List.set_cons_succ]
      refine wpAnyH_take (i := 11) (oi := ⟨_, _, _, _, _, _⟩) (v := undef) rfl (by kernel_rfl) (by kernel_rfl) (by kernel_rfl) (fun _ _ _ h => h) (Or.inr ⟨by rfl, rfl⟩) s6 ?_
      simp only [Act.put, List.setIfInBounds_toArray, List.set_cons_zero, List.set_cons_succ]
      refine wpAnyH_take (i := 12) (oi := ⟨_, _, _, _, _, _⟩) (v := undef) rfl (by kernel_rfl) (by kernel_rfl) (by kernel_rfl) (fun _ _ _ h => h) (Or.inr ⟨by rfl, rfl⟩) s6 ?_
      simp only [Act.put, List.setIfInBounds_toArray, List.set_cons_zero, List.set_cons_succ]
      refine wpAnyH_take (i := 13) (oi := ⟨_, _, _, _, _, _⟩) (v := undef) rfl (by kernel_rfl) (by kernel_rfl) (by kernel_rfl) (fun _ _ _ h => h) (Or.inr ⟨by rfl, rfl⟩) s6 ?_
      simp only [Act.put, List.setIfInBounds_toArray, List.set_cons_zero, List.set_cons_succ]
      refine wpAnyH_take (i := 14) (oi := ⟨_, _, _, _, _, _⟩) (v := .bool true) rfl (by kernel_rfl) (by kernel_rfl) (by kernel_rfl) (fun _ _ _ h => h) (Or.inl ⟨by rfl, fun w' hS => by go_simp⟩) s6 ?_
      simp only [Act.put, List.setIfInBounds_toArray, List.set_cons_zero, List.set_cons_succ]
      refine wpAnyH_done (by kernel_rfl) ?_ _
      go_wp2_with fail
      go_ret
      exact ⟨by rw [HR.out]; simp, s6.2⟩
    | true =>
      by_cases hre : 64 < m.reason.length
      · have hre2 : decide ((m.reason.length : Int) > 64) = true := by simp; omega
        have hre3 : decide ((64 : Int) < (m.reason.length : Int)) = true := by simp; omega
        refine wp_region_held_drew (S := (fun w' => Blk w' w.heap.size 28 (mvC m nA nc rA rc vA vc) ∧ Below w.heap.size w w')) (by kernel_rfl) ⟨KM.out.drew, BM.out.drew⟩ (fun s0 => ?_)
        refine wpAnyH_take (i := 0) (oi := ⟨_, _, _, _, _, _⟩) (v := .string s) rfl (by kernel_rfl) (by kernel_rfl) (by kernel_rfl) (fun _ _ _ h => h) (Or.inl ⟨by rfl, fun w' hS => by go_simp⟩) s0 ?_
        simp only [Act.put, List.setIfInBounds_toArray, List.set_cons_zero, List.set_cons_succ]
        refine wpAnyH_take (i := 1) (oi := ⟨_, _, _, _, _, _⟩) (v := .bool false) rfl (by kernel_rfl) (by kernel_rfl) (by kernel_rfl) (fun _ _ _ h => h) (Or.inl ⟨by rfl, fun w' hS => by go_simp⟩) s0 ?_
        simp only [Act.put, List.setIfInBounds_toArray, List.set_cons_zero, List.set_cons_succ]
        refine wpAnyH_take (i := 2) (oi := ⟨_, _, _, _, _, _⟩) (v := .bool false) rfl (by kernel_rfl) (by kernel_rfl) (by kernel_rfl) (fun _ _ _ h => h) (Or.inl ⟨by rfl, fun w' hS => by go_simp⟩) s0 ?_
        simp only [Act.put, List.setIfInBounds_toArray, List.set_cons_zero, List.set_cons_succ]
        refine wpAnyH_take (i := 3) (oi := ⟨_, _, _, _, _, _⟩) rfl (by kernel_rfl) (by kernel_rfl) (by kernel_rfl) (fun _ _ _ h => h) (yieldsIf_load_mid (by rfl) 28 (.tmp 1) rfl w.heap.size 0 rfl [.int .u64 m.kind, .int .u64 m.id, .int .u64 m.alias_, .slice nA m.name.length nc, .int .u8 m.prio, .int .u8 m.ord, .int .u64 m.sg, .int .u64 m.so, .int .u64 m.eg, .int .u64 m.eo, .bool m.some_, .int .u64 m.code, .slice rA m.reason.length rc, .int .u64 m.n, .int .u64 m.ver, .slice vA m.vers.length vc] _ (fun w' hS => range_blk hS.1) Tryd.underlying28 rfl info_rmsg) s0 ?_
        simp only [Act.put, List.setIfInBounds_toArray, List.set_cons_zero, List.set_cons_succ]
        refine wpAnyH_take (i := 4) (oi := ⟨_, _, _, _, _, _⟩) rfl (by kernel_rfl) (by kernel_rfl) (by kernel_rfl) (fun _ _ _ h => h) (yieldsIf_load_mid (by rfl) 28 (.tmp 1) rfl w.heap.size 0 rfl [.int .u64 m.kind, .int .u64 m.id, .int .u64 m.alias_, .slice nA m.name.length nc, .int .u8 m.prio, .int .u8 m.ord, .int .u64 m.sg, .int .u64 m.so, .int .u64 m.eg, .int .u64 m.eo, .bool m.some_, .int .u64 m.code, .slice rA m.reason.length rc, .int .u64 m.n, .int .u64 m.ver, .slice vA m.vers.length vc] _ (fun w' hS => range_blk hS.1) Tryd.underlying28 rfl info_rmsg) s0 ?_
        simp only [Act.put, List.setIfInBounds_toArray, List.set_cons_zero, List.set_cons_succ]
        refine wpAnyH_ready (rs := [5]) (by kernel_rfl) (by simp) ?_
        refine AllReadyH.cons rfl (fun K hK => ?_) AllReadyH.nil
        go_simp
        refine (CO.out _ s0.2).mono ?_
        rintro e w5 h5
        obtain ⟨nA', nc', rA', rc', vA', vc', rfl, r1, r2, r3⟩ := h5.ok
        have b5 := h5.bel
        have q5 : Blk w5 w.heap.size 28 (mvC m nA nc rA rc vA vc) ∧ Below w.heap.size w w5 := ⟨s0.1.below b5 s0.1.lt, s0.2.trans (b5.mono s0.2.size)⟩
        have CSm := Lib.hid (CS2.out nA' nc' rA' rc' vA' vc' w5 _ r1 r2 r3 b5 q5.2)
        unfold mvC
        refine hK.out _ _ q5 (fun s5 => ?_)
        clear hK K s0 r1 r2 r3 h5 b5
        unfold mvC at CSm
        refine wpAnyH_ready (rs := [6]) (by kernel_rfl) (by simp) ?_
        refine AllReadyH.cons rfl (fun K hK => ?_) AllReadyH.nil
        go_simp
        refine CSm.out.mono ?_
        rintro e w6 ⟨rfl, b6⟩
        have q6 : Blk w6 w.heap.size 28 (mvC m nA nc rA rc vA vc) ∧ Below w.heap.size w w6 := ⟨s5.1.below b6 s5.1.lt, s5.2.trans (b6.mono s5.2.size)⟩
        refine hK.out _ _ q6 (fun s6 => ?_)
        clear hK K s5 b6 q6 q5 CSm
        refine wpAnyH_take (i := 7) (oi := ⟨_, _, _, _, _, _⟩) (v := .bool false) rfl (by kernel_rfl) (by kernel_rfl) (by kernel_rfl) (fun _ _ _ h => h) (Or.inl ⟨by rfl, fun w' hS => by go_simp⟩) s6 ?_
        simp only [Act.put, List.setIfInBounds_toArray, List.set_cons_zero, List.set_cons_succ]
        refine wpAnyH_take (i := 8) (oi := ⟨_, _, _, _, _, _⟩) (v := .bool false) rfl (by kernel_rfl) (by kernel_rfl) (by kernel_rfl) (fun _ _ _ h => h) (Or.inl ⟨by rfl, fun w' hS => by go_simp⟩) s6 ?_
        simp only [Act.put, List.setIfInBounds_toArray, List.set_cons_zero, List.set_cons_succ]
        refine wpAnyH_take (i := 9) (oi := ⟨_, _, _, _, _, _⟩) (v := .bool false) rfl (by kernel_rfl) (by kernel_rfl) (by kernel_rfl) (fun _ _ _ h => h) (Or.inl ⟨by rfl, fun w' hS => by go_simp⟩) s6 ?_
        simp only [Act.put, List.setIfInBounds_toArray, List.set_cons_zero, List.set_cons_succ]
        refine wpAnyH_take (i := 10) (oi := ⟨_, _, _, _, _, _⟩) (v := .pointer (some ⟨w.heap.size, 12, none⟩)) rfl (by kernel_rfl) (by kernel_rfl) (by kernel_rfl) (fun _ _ _ h => h) (Or.inl ⟨by rfl, fun w' hS => by go_simp⟩) s6 ?_
        simp only [Act.put, List.setIfInBounds_toArray, List.set_cons_zero, List.set_cons_succ]
        refine wpAnyH_take (i := 11) (oi := ⟨_, _, _, _, _, _⟩) (v := .slice rA m.reason.length rc) rfl (by kernel_rfl) (by kernel_rfl) (by kernel_rfl) (fun _ _ _ h => h) (Or.inl ⟨by rfl, fun w' hS => by have c12 := hS.1.cell 12; simp only [mvC, List.getElem?_toArray, List.getElem?_cons_zero, List.getElem?_cons_succ] at c12; go_simp⟩) s6 ?_
        simp only [Act.put, List.setIfInBounds_toArray, List.set_cons_zero, List.set_cons_succ]
        refine wpAnyH_take (i := 12) (oi := ⟨_, _, _, _, _, _⟩) (v := .int .i64 m.reason.length) rfl (by kernel_rfl) (by kernel_rfl) (by kernel_rfl) (fun _ _ _ h => h) (Or.inl ⟨by rfl, fun w' hS => by go_simp⟩) s6 ?_
        simp only [Act.put, List.setIfInBounds_toArray, List.set_cons_zero, List.set_cons_succ]
        refine wpAnyH_take (i := 13) (oi := ⟨_, _, _, _, _, _⟩) (v := .bool true) rfl (by kernel_rfl) (by kernel_rfl) (by kernel_rfl) (fun _ _ _ h => h) (Or.inl ⟨by rfl, fun w' hS => by go_simp⟩) s6 ?_
        simp only [Act.put, List.setIfInBounds_toArray, List.set_cons_zero, List.set_cons_succ]
        refine wpAnyH_take (i := 14) (oi := ⟨_, _, _, _, _, _⟩) (v := .bool true) rfl (by kernel_rfl) (by kernel_rfl) (by kernel_rfl) (fun _ _ _ h => h) (Or.inl ⟨by rfl, fun w' hS => by go_simp⟩) s6 ?_
        simp only [Act.put, List.setIfInBounds_toArray, List.set_cons_zero, List.set_cons_succ]
        refine wpAnyH_done (by kernel_rfl) ?_ _
        go_wp2_with fail
        go_ret
        exact ⟨by rw [HR.out]; rw [show decide (m.reason.length ≤ 64) = false by simp; omega]; simp, s6.2⟩
      · have hre2 : decide ((m.reason.length : Int) > 64) = false := by simp; omega
        have hre3 : decide ((64 : Int) < (m.reason.length : Int)) = false := by simp; omega
        refine wp_region_held_drew (S := (fun w' => Blk w' w.heap.size 28 (mvC m nA nc rA rc vA vc) ∧ Below w.heap.size w w')) (by kernel_rfl) ⟨KM.out.drew, BM.out.drew⟩ (fun s0 => ?_)
        refine wpAnyH_take (i := 0) (oi := ⟨_, _, _, _, _, _⟩) (v := .string s) rfl (by kernel_rfl) (by kernel_rfl) (by kernel_rfl) (fun _ _ _ h => h) (Or.inl ⟨by rfl, fun w' hS => by go_simp⟩) s0 ?_
        simp only [Act.put, List.setIfInBounds_toArray, List.set_cons_zero, List.set_cons_succ]
        refine wpAnyH_take (i := 1) (oi := ⟨_, _, _, _, _, _⟩) (v := .bool false) rfl (by kernel_rfl) (by kernel_rfl) (by kernel_rfl) (fun _ _ _ h => h) (Or.inl ⟨by rfl, fun w' hS => by go_simp⟩) s0 ?_
        simp only [Act.put, List.setIfInBounds_toArray, List.set_cons_zero, List.set_cons_succ]
        refine wpAnyH_take (i := 2) (oi := ⟨_, _, _, _, _, _⟩) (v := .bool false) rfl (by kernel_rfl) (by kernel_rfl) (by kernel_rfl) (fun _ _ _ h => h) (Or.inl ⟨by rfl, fun w' hS => by go_simp⟩) s0 ?_
        simp only [Act.put, List.setIfInBounds_toArray, List.set_cons_zero, List.set_cons_succ]
        refine wpAnyH_take (i := 3) (oi := ⟨_, _, _, _, _, _⟩) rfl (by kernel_rfl) (by kernel_rfl) (by kernel_rfl) (fun _ _ _ h => h) (yieldsIf_load_mid (by rfl) 28 (.tmp 1) rfl w.heap.size 0 rfl [.int .u64 m.kind, .int .u64 m.id, .int .u64 m.alias_, .slice nA m.name.length nc, .int .u8 m.prio, .int .u8 m.ord, .int .u64 m.sg, .int .u64 m.so, .int .u64 m.eg, .int .u64 m.eo, .bool m.some_, .int .u64 m.code, .slice rA m.reason.length rc, .int .u64 m.n, .int .u64 m.ver, .slice vA m.vers.length vc] _ (fun w' hS => range_blk hS.1) Tryd.underlying28 rfl info_rmsg) s0 ?_
        simp only [Act.put, List.setIfInBounds_toArray, List.set_cons_zero, List.set_cons_succ]
        refine wpAnyH_take (i := 4) (oi := ⟨_, _, _, _, _, _⟩) rfl (by kernel_rfl) (by kernel_rfl) (by kernel_rfl) (fun _ _ _ h => h) (yieldsIf_load_mid (by rfl) 28 (.tmp 1) rfl w.heap.size 0 rfl [.int .u64 m.kind, .int .u64 m.id, .int .u64 m.alias_, .slice nA m.name.length nc, .int .u8 m.prio, .int .u8 m.ord, .int .u64 m.sg, .int .u64 m.so, .int .u64 m.eg, .int .u64 m.eo, .bool m.some_, .int .u64 m.code, .slice rA m.reason.length rc, .int .u64 m.n, .int .u64 m.ver, .slice vA m.vers.length vc] _ (fun w' hS => range_blk hS.1) Tryd.underlying28 rfl info_rmsg) s0 ?_
        simp only [Act.put, List.setIfInBounds_toArray, List.set_cons_zero, List.set_cons_succ]
        refine wpAnyH_ready (rs := [5]) (by kernel_rfl) (by simp) ?_
        refine AllReadyH.cons rfl (fun K hK => ?_) AllReadyH.nil
        go_simp
        refine (CO.out _ s0.2).mono ?_
        rintro e w5 h5
        obtain ⟨nA', nc', rA', rc', vA', vc', rfl, r1, r2, r3⟩ := h5.ok
        have b5 := h5.bel
        have q5 : Blk w5 w.heap.size 28 (mvC m nA nc rA rc vA vc) ∧ Below w.heap.size w w5 := ⟨s0.1.below b5 s0.1.lt, s0.2.trans (b5.mono s0.2.size)⟩
        have CSm := Lib.hid (CS2.out nA' nc' rA' rc' vA' vc' w5 _ r1 r2 r3 b5 q5.2)
        unfold mvC
        refine hK.out _ _ q5 (fun s5 => ?_)
        clear hK K s0 r1 r2 r3 h5 b5
        unfold mvC at CSm
        refine wpAnyH_ready (rs := [6]) (by kernel_rfl) (by simp) ?_
        refine AllReadyH.cons rfl (fun K hK => ?_) AllReadyH.nil
        go_simp
        refine CSm.out.mono ?_
        rintro e w6 ⟨rfl, b6⟩
        have q6 : Blk w6 w.heap.size 28 (mvC m nA nc rA rc vA vc) ∧ Below w.heap.size w w6 := ⟨s5.1.below b6 s5.1.lt, s5.2.trans (b6.mono s5.2.size)⟩
        refine hK.out _ _ q6 (fun s6 => ?_)
        clear hK K s5 b6 q6 q5 CSm
        refine wpAnyH_take (i := 7) (oi := ⟨_, _, _, _, _, _⟩) (v := .bool false) rfl (by kernel_rfl) (by kernel_rfl) (by kernel_rfl) (fun _ _ _ h => h) (Or.inl ⟨by rfl, fun w' hS => by go_simp⟩) s6 ?_
        simp only [Act.put, List.setIfInBounds_toArray, List.set_cons_zero, List.set_cons_succ]
        refine wpAnyH_take (i := 8) (oi := ⟨_, _, _, _, _, _⟩) (v := .bool false) rfl (by kernel_rfl) (by kernel_rfl) (by kernel_rfl) (fun _ _ _ h => h) (Or.inl ⟨by rfl, fun w' hS => by go_simp⟩) s6 ?_
        simp only [Act.put, List.setIfInBounds_toArray, List.set_cons_zero, List.set_cons_succ]
        refine wpAnyH_take (i := 9) (oi := ⟨_, _, _, _, _, _⟩) (v := .bool false) rfl (by kernel_rfl) (by kernel_rfl) (by kernel_rfl) (fun _ _ _ h => h) (Or.inl ⟨by rfl, fun w' hS => by go_simp⟩) s6 ?_
        simp only [Act.put, List.setIfInBounds_toArray, List.set_cons_zero, List.set_cons_succ]
        refine wpAnyH_take (i := 10) (oi := ⟨_, _, _, _, _, _⟩) (v := .pointer (some ⟨w.heap.size, 12, none⟩)) rfl (by kernel_rfl) (by kernel_rfl) (by kernel_rfl) (fun _ _ _ h => h) (Or.inl ⟨by rfl, fun w' hS => by go_simp⟩) s6 ?_
        simp only [Act.put, List.setIfInBounds_toArray, List.set_cons_zero, List.set_cons_succ]
        refine wpAnyH_take (i := 11) (oi := ⟨_, _, _, _, _, _⟩) (v := .slice rA m.reason.length rc) rfl (by kernel_rfl) (by kernel_rfl) (by kernel_rfl) (fun _ _ _ h => h) (Or.inl ⟨by rfl, fun w' hS => by have c12 := hS.1.cell 12; simp only [mvC, List.getElem?_toArray, List.getElem?_cons_zero, List.getElem?_cons_succ] at c12; go_simp⟩) s6 ?_
        simp only [Act.put, List.setIfInBounds_toArray, List.set_cons_zero, List.set_cons_succ]
        refine wpAnyH_take (i := 12) (oi := ⟨_, _, _, _, _, _⟩) (v := .int .i64 m.reason.length) rfl (by kernel_rfl) (by kernel_rfl) (by kernel_rfl) (fun _ _ _ h => h) (Or.inl ⟨by rfl, fun w' hS => by go_simp⟩) s6 ?_
        simp only [Act.put, List.setIfInBounds_toArray, List.set_cons_zero, List.set_cons_succ]
        refine wpAnyH_take (i := 13) (oi := ⟨_, _, _, _, _, _⟩) (v := .bool false) rfl (by kernel_rfl) (by kernel_rfl) (by kernel_rfl) (fun _ _ _ h => h) (Or.inl ⟨by rfl, fun w' hS => by go_simp⟩) s6 ?_
        simp only [Act.put, List.setIfInBounds_toArray, List.set_cons_zero, List.set_cons_succ]
        refine wpAnyH_take (i := 14) (oi := ⟨_, _, _, _, _, _⟩) (v := .bool false) rfl (by kernel_rfl) (by kernel_rfl) (by kernel_rfl) (fun _ _ _ h => h) (Or.inl ⟨by rfl, fun w' hS => by go_simp⟩) s6 ?_
        simp only [Act.put, List.setIfInBounds_toArray, List.set_cons_zero, List.set_cons_succ]
        refine wpAnyH_done (by kernel_rfl) ?_ _
        have KM6 := Lib.hid s6.1
        have BM6 := Lib.hid s6.2
        have km := KM6.out
        have zm := km.lt
        have d0 := km.cell 0
        have d1 := km.cell 1
        have d2 := km.cell 2
        have d3 := km.cell 3
        have d4 := km.cell 4
        have d5 := km.cell 5
        have d6 := km.cell 6
        have d7 := km.cell 7
        have d8 := km.cell 8
        have d9 := km.cell 9
        have d10 := km.cell 10
        have d11 := km.cell 11
        have d12 := km.cell 12
        have d13 := km.cell 13
        have d14 := km.cell 14
        have d15 := km.cell 15
        simp only [mvC, List.getElem?_toArray, List.getElem?_cons_zero, List.getElem?_cons_succ] at d0 d1 d2 d3 d4 d5 d6 d7 d8 d9 d10 d11 d12 d13 d14 d15
        have hr64 : decide (m.reason.length ≤ 64) = true := by simp; omega
        have HR2 := Lib.hid (show R = ((numsM m).all (fun x => decide (x ≤ 4611686018427387903)) && lettersOk s m) by rw [HR.out, hr64]; simp)
        clear km KM BM CO CS2 hre hre2 hre3 hr64 hne hnl HR s6
        have RV6 := Lib.hid (RdI.below HRD.out.2.2 BM6.out)
        obtain ⟨N, hN⟩ : ∃ N, N = numsM m := ⟨_, rfl⟩
        have HN := Lib.hid hN
        have hNl : N.length = 9 + m.vers.length := by rw [hN]; unfold numsM; simp; omega
        rw [← hN] at HR2
        have hNl2 : N.length ≤ 2000000 := by omega
        clear hN hNl
        go_wp2_with (at_builtin; go_must (refine wpList_appUX rfl (.tmp 49) (.tmp 51) rfl w6.heap.size (l := [m.id, m.alias_, m.code, m.n, m.ver, m.sg, m.so, m.eg, m.eo]) (news := m.vers) (d := vc) N HN.out rfl rfl (own_9W w6 m.id m.alias_ m.code m.n m.ver m.sg m.so m.eg m.eo (Nat.le_refl _)) (RdI.alloc RV6.out _) (by simp; omega) (by simp) ?_); intro A7 c7 w7 o7 g7 b7)
        have bal : Below w6.heap.size w6 w7 := ((Below.refl _ _).alloc (Nat.le_refl _) _).trans b7
        have KM7 := Lib.hid (KM6.out.below bal zm)
        have BM7 := Lib.hid (BM6.out.trans (bal.mono BM6.out.size))
        have RN := Lib.hid (show RdI .u64 w7 A7 N from OwnV.reads o7)
        clear o7 g7 b7 bal KM6 BM6 RV6 HN d0 d1 d2 d3 d4 d5 d6 d7 d8 d9 d10 d11 d12 d13 d14 d15 zm
        go_loopw [54] (fun iv wr => ∃ j : Nat, j ≤ N.length ∧ iv = .int .i64 j ∧ wr = w7 ∧ Hid (∀ x ∈ N.take j, x ≤ 4611686018427387903)) (fun iv _ => N.length - (intOf iv).toNat)
        case atStart => exact ⟨0, by omega, rfl, rfl, Lib.hid (by simp)⟩
        case round =>
          obtain ⟨j, hj, rfl, hwr, HA⟩ := hrel
          have hwe := hwr.symm
          subst hwe
          by_cases hlt : j < N.length
          · obtain ⟨bk, off, x, rfl, hb, hx, hc⟩ := RN.out.at_ hlt
            have k0 : (0 : Int) ≤ (j : Int) := by omega
            have k1 : (j : Int) < (N.length : Int) := by omega
            have HX := Lib.hid hx
            clear hx
            by_cases hle : x ≤ 4611686018427387903
            · have hd1 : decide (x > 4611686018427387903) = false := by simpa using hle
              have hd2 : decide (4611686018427387903 < x) = false := by simpa using hle
              have HA2 := Lib.hid (show ∀ y ∈ N.take (j + 1), y ≤ 4611686018427387903 by
                rw [List.take_add_one, HX.out]
                intro y hy
                rcases List.mem_append.1 hy with h | h
                · exact HA.out y h
                · simp at h; rw [h]; exact hle)
              clear hle
              go_wp2_with fail
              go_roundw
              case rel => exact ⟨j + 1, by omega, by go_num, trivial, HA2⟩
              case measure => simp [intOf]; omega
            · have hd1 : decide (x > 4611686018427387903) = true := by simp; omega
              have hd2 : decide (4611686018427387903 < x) = true := by simp; omega
              have hbad : N.all (fun x => decide (x ≤ 4611686018427387903)) = false := by
                rw [Bool.eq_false_iff]
                intro h
                have := List.all_eq_true.1 h x (List.mem_of_getElem? HX.out)
                simp at this
                exact hle this
              have HBAD := Lib.hid hbad
              clear hbad hle
              go_wp2_with fail
              go_ret
              exact ⟨by rw [HR2.out, HBAD.out]; rfl, BM7.out⟩
          · have hd : decide (j < N.length) = false := by simpa using hlt
            have HALL := Lib.hid (show N.all (fun x => decide (x ≤ 4611686018427387903)) = true by
              have h := HA.out
              rw [List.take_of_length_le (by omega)] at h
              exact List.all_eq_true.2 (fun x hx => by simpa using h x hx))
            have HR3 := Lib.hid (show R = lettersOk s m by rw [HR2.out, HALL.out]; rfl)
            clear HALL HR2 HA
            go_wp2_with fail
            obtain ⟨gi, hgi⟩ : ∃ g, g = w7.heap.size := ⟨_, rfl⟩
            have HGI := Lib.hid hgi
            have I0 := Lib.hid (show RightI w (w7.iter s 0) gi s m nA nc rA rc vA vc 0 from ⟨KM7.out.below (iter_below w7 s 0) KM7.out.lt, by rw [hgi]; exact It.new w7 s, by rw [hgi]; exact KM7.out.lt, BM7.out.trans ((iter_below w7 s 0).mono BM7.out.size), Nat.zero_le _, fun j hj => absurd hj (Nat.not_lt_zero _)⟩)
            clear hgi KM7 BM7 RN hj hlt hd
            go_loopw [] (fun wr => ∃ pos, Hid (RightI w wr gi s m nA nc rA rc vA vc pos)) (fun wr => s.size - wr.iterPos gi)
            case atStart => exact ⟨0, I0⟩
            case round =>
              obtain ⟨pos, HI⟩ := hrel
              rename World => wr
              by_cases hlt : pos < s.size
              · have hin := HL.out pos hlt
                obtain ⟨w1, hw1⟩ : ∃ w1, w1 = itSet wr gi s (pos + 1) := ⟨_, rfl⟩
                obtain ⟨ch, hch⟩ : ∃ ch, ch = (s[pos]'hlt).toNat := ⟨_, rfl⟩
                have ha : (s[pos]'hlt).toNat < 128 := by
                  have : ∀ c ∈ lettersW, c < 128 := by decide
                  exact this _ hin
                have hnx : ∀ ty, (Instr.next (.pointer (some ⟨w7.heap.size, 0, none⟩)) true ty).run Tryd.prog wr = .ok (.tuple #[.bool true, .int .i64 pos, .int .i32 ch]) w1 := fun ty => by
                  rw [hch, hw1, HGI.out]
                  exact run_next_it wr w7.heap.size s pos ty (by rw [← HGI.out]; exact HI.out.it) hlt ha
                have G1 : wr.grownBy w1 (some gi) := by rw [hw1]; exact itSet_grown wr gi s (pos + 1)
                have hlg := HI.out.lt
                have K1M := Lib.hid (HI.out.km.grown G1 (fun e => by injection e with e; omega))
                have I1 := Lib.hid (show It w1 gi s (pos + 1) by rw [hw1]; exact itSet_it HI.out.it _)
                have B1 := Lib.hid (below_gsW HI.out.bel G1 (by omega) HI.out.bel.size)
                have HM0 := Lib.hid (iterPos_it HI.out.it)
                have HC := Lib.hid (show chW s pos = ch by unfold chW; rw [dif_pos hlt, hch])
                have HLT := Lib.hid hlg
                have HOKS := Lib.hid HI.out.ok
                have zm := K1M.out.lt
                rw [← hch] at hin
                clear hch hw1 ha HI I0 hlg G1
                simp only [lettersW, List.mem_cons, List.not_mem_nil, or_false] at hin
                rcases hin with rfl | rfl | rfl | rfl | rfl | rfl | rfl | rfl | rfl | rfl | rfl | rfl | rfl | rfl | rfl
                · -- 105
                  rw [show ((105 : Nat) : Int) = 105 from rfl] at hnx
                  have HOK := Lib.hid (show okC 105 m = true by rfl)
                  go_wp2_with fail
                  go_roundw
                  case rel => exact ⟨pos + 1, Lib.hid ⟨K1M.out, I1.out, HLT.out, B1.out, hlt, fun j hj => by
                    rcases Nat.lt_or_eq_of_le (Nat.le_of_lt_succ hj) with h | h
                    · exact HOKS.out j h
                    · rw [h, HC.out]; exact HOK.out⟩⟩
                  case measure =>
                    rw [HM0.out, iterPos_it I1.out]
                    omega
                · -- 97
                  rw [show ((97 : Nat) : Int) = 97 from rfl] at hnx
                  have HOK := Lib.hid (show okC 97 m = true by rfl)
                  go_wp2_with fail
                  go_roundw
                  case rel => exact ⟨pos + 1, Lib.hid ⟨K1M.out, I1.out, HLT.out, B1.out, hlt, fun j hj => by
                    rcases Nat.lt_or_eq_of_le (Nat.le_of_lt_succ hj) with h | h
                    · exact HOKS.out j h
                    · rw [h, HC.out]; exact HOK.out⟩⟩
                  case measure =>
                    rw [HM0.out, iterPos_it I1.out]
                    omega
                · -- 116
                  rw [show ((116 : Nat) : Int) = 116 from rfl] at hnx
                  have m3 := K1M.out.cell 3
                  simp only [mvC, List.getElem?_toArray, List.getElem?_cons_zero, List.getElem?_cons_succ] at m3
                  by_cases p1 : 1 ≤ m.name.length
                  · have f1 : decide (((m.name.length : Nat) : Int) ≥ 1) = true := decide_eq_true (by omega)
                    have f2 : decide (1 ≤ ((m.name.length : Nat) : Int)) = true := decide_eq_true (by omega)
                    have f3 : decide (1 ≤ m.name.length) = true := decide_eq_true (by omega)
                    have f4 : decide (0 < m.name.length) = true := decide_eq_true (by omega)
                    by_cases p2 : m.name.length ≤ 32
                    · have q1 : decide (((m.name.length : Nat) : Int) ≤ 32) = true := decide_eq_true (by omega)
                      have q2 : decide (m.name.length ≤ 32) = true := decide_eq_true (by omega)
                      have HOK := Lib.hid (show okC 116 m = true by unfold okC; simp [p1, p2])
                      clear p1 p2
                      go_wp2_with fail
                      go_roundw
                      case rel => exact ⟨pos + 1, Lib.hid ⟨K1M.out, I1.out, HLT.out, B1.out, hlt, fun j hj => by
                        rcases Nat.lt_or_eq_of_le (Nat.le_of_lt_succ hj) with h | h
                        · exact HOKS.out j h
                        · rw [h, HC.out]; exact HOK.out⟩⟩
                      case measure =>
                        rw [HM0.out, iterPos_it I1.out]
                        omega
                    · have q1 : decide (((m.name.length : Nat) : Int) ≤ 32) = false := decide_eq_false (by omega)
                      have q2 : decide (m.name.length ≤ 32) = false := decide_eq_false (by omega)
                      have HOK := Lib.hid (show okC 116 m = false by unfold okC; simp [p2])
                      clear p1 p2
                      go_wp2_with fail
                      go_ret
                      exact ⟨by rw [HR3.out, letters_no hlt (by rw [HC.out]; exact HOK.out)]; rfl, B1.out⟩
                  · have f1 : decide (((m.name.length : Nat) : Int) ≥ 1) = false := decide_eq_false (by omega)
                    have f2 : decide (1 ≤ ((m.name.length : Nat) : Int)) = false := decide_eq_false (by omega)
                    have f3 : decide (1 ≤ m.name.length) = false := decide_eq_false (by omega)
                    have f4 : decide (0 < m.name.length) = false := decide_eq_false (by omega)
                    have HOK := Lib.hid (show okC 116 m = false by unfold okC; simp [f3])
                    clear p1
                    go_wp2_with fail
                    go_ret
                    exact ⟨by rw [HR3.out, letters_no hlt (by rw [HC.out]; exact HOK.out)]; rfl, B1.out⟩
                · -- 112
                  rw [show ((112 : Nat) : Int) = 112 from rfl] at hnx
                  have HOK := Lib.hid (show okC 112 m = true by rfl)
                  go_wp2_with fail
                  go_roundw
                  case rel => exact ⟨pos + 1, Lib.hid ⟨K1M.out, I1.out, HLT.out, B1.out, hlt, fun j hj => by
                    rcases Nat.lt_or_eq_of_le (Nat.le_of_lt_succ hj) with h | h
                    · exact HOKS.out j h
                    · rw [h, HC.out]; exact HOK.out⟩⟩
                  case measure =>
                    rw [HM0.out, iterPos_it I1.out]
                    omega
                · -- 111
                  rw [show ((111 : Nat) : Int) = 111 from rfl] at hnx
                  have m5 := K1M.out.cell 5
                  simp only [mvC, List.getElem?_toArray, List.getElem?_cons_zero, List.getElem?_cons_succ] at m5
                  by_cases p1 : m.ord = 1
                  · have f1 : (m.ord == 1) = true := by simpa using p1
                    have HOK := Lib.hid (show okC 111 m = true by unfold okC; simp [p1])
                    clear p1
                    go_wp2_with fail
                    go_roundw
                    case rel => exact ⟨pos + 1, Lib.hid ⟨K1M.out, I1.out, HLT.out, B1.out, hlt, fun j hj => by
                      rcases Nat.lt_or_eq_of_le (Nat.le_of_lt_succ hj) with h | h
                      · exact HOKS.out j h
                      · rw [h, HC.out]; exact HOK.out⟩⟩
                    case measure =>
                      rw [HM0.out, iterPos_it I1.out]
                      omega
                  · have f1 : (m.ord == 1) = false := by simpa using p1
                    by_cases p2 : m.ord = 2
                    · have f2 : (m.ord == 2) = true := by simpa using p2
                      have HOK := Lib.hid (show okC 111 m = true by unfold okC; simp [p2])
                      clear p1 p2
                      go_wp2_with fail
                      go_roundw
                      case rel => exact ⟨pos + 1, Lib.hid ⟨K1M.out, I1.out, HLT.out, B1.out, hlt, fun j hj => by
                        rcases Nat.lt_or_eq_of_le (Nat.le_of_lt_succ hj) with h | h
                        · exact HOKS.out j h
                        · rw [h, HC.out]; exact HOK.out⟩⟩
                      case measure =>
                        rw [HM0.out, iterPos_it I1.out]
                        omega
                    · have f2 : (m.ord == 2) = false := by simpa using p2
                      have HOK := Lib.hid (show okC 111 m = false by unfold okC; simp [p1, p2])
                      clear p1 p2
                      go_wp2_with fail
                      go_ret
                      exact ⟨by rw [HR3.out, letters_no hlt (by rw [HC.out]; exact HOK.out)]; rfl, B1.out⟩
                · -- 115
                  rw [show ((115 : Nat) : Int) = 115 from rfl] at hnx
                  have HOK := Lib.hid (show okC 115 m = true by rfl)
                  go_wp2_with fail
                  go_roundw
                  case rel => exact ⟨pos + 1, Lib.hid ⟨K1M.out, I1.out, HLT.out, B1.out, hlt, fun j hj => by
                    rcases Nat.lt_or_eq_of_le (Nat.le_of_lt_succ hj) with h | h
                    · exact HOKS.out j h
                    · rw [h, HC.out]; exact HOK.out⟩⟩
                  case measure =>
                    rw [HM0.out, iterPos_it I1.out]
                    omega
                · -- 101
                  rw [show ((101 : Nat) : Int) = 101 from rfl] at hnx
                  have m6 := K1M.out.cell 6
                  have m7 := K1M.out.cell 7
                  have m8 := K1M.out.cell 8
                  have m9 := K1M.out.cell 9
                  simp only [mvC, List.getElem?_toArray, List.getElem?_cons_zero, List.getElem?_cons_succ] at m6 m7 m8 m9
                  have CL := Lib.hid (refLessW_any m.eg m.eo m.sg m.so w1)
                  obtain ⟨lb, hlb⟩ : ∃ l, l = lessB m.eg m.eo m.sg m.so := ⟨_, rfl⟩
                  rw [← hlb] at CL
                  have HLB := Lib.hid hlb
                  clear hlb
                  go_wp2_with fail
                  refine CL.out.mono ?_
                  rintro e w2 ⟨rfl, b2⟩
                  have K2M := Lib.hid (K1M.out.below b2 K1M.out.lt)
                  have I2 := Lib.hid (I1.out.below b2 I1.out.lt)
                  have B2 := Lib.hid (B1.out.trans (b2.mono B1.out.size))
                  clear b2
                  cases lb with
                  | true =>
                    have HOK := Lib.hid (show okC 101 m = false by unfold okC; simp [← HLB.out])
                    go_wp2_with fail
                    go_ret
                    exact ⟨by rw [HR3.out, letters_no hlt (by rw [HC.out]; exact HOK.out)]; rfl, B2.out⟩
                  | false =>
                    have HOK := Lib.hid (show okC 101 m = true by unfold okC; simp [← HLB.out])
                    go_wp2_with fail
                    go_roundw
                    case rel => exact ⟨pos + 1, Lib.hid ⟨K2M.out, I2.out, HLT.out, B2.out, hlt, fun j hj => by
                      rcases Nat.lt_or_eq_of_le (Nat.le_of_lt_succ hj) with h | h
                      · exact HOKS.out j h
                      · rw [h, HC.out]; exact HOK.out⟩⟩
                    case measure =>
                      rw [HM0.out, iterPos_it I2.out]
                      omega
                · -- 103
                  rw [show ((103 : Nat) : Int) = 103 from rfl] at hnx
                  have m6 := K1M.out.cell 6
                  have m8 := K1M.out.cell 8
                  simp only [mvC, List.getElem?_toArray, List.getElem?_cons_zero, List.getElem?_cons_succ] at m6 m8
                  by_cases p1 : m.eg = 0
                  · have f1 : (m.eg == 0) = true := by simpa using p1
                    have HOK := Lib.hid (show okC 103 m = true by unfold okC; simp [p1])
                    clear p1
                    go_wp2_with fail
                    go_roundw
                    case rel => exact ⟨pos + 1, Lib.hid ⟨K1M.out, I1.out, HLT.out, B1.out, hlt, fun j hj => by
                      rcases Nat.lt_or_eq_of_le (Nat.le_of_lt_succ hj) with h | h
                      · exact HOKS.out j h
                      · rw [h, HC.out]; exact HOK.out⟩⟩
                    case measure =>
                      rw [HM0.out, iterPos_it I1.out]
                      omega
                  · have f1 : (m.eg == 0) = false := by simpa using p1
                    by_cases p2 : m.sg < m.eg
                    · have f2 : decide (m.eg > m.sg) = true := by simpa using p2
                      have f3 : decide (m.sg < m.eg) = true := by simpa using p2
                      have HOK := Lib.hid (show okC 103 m = true by unfold okC; simp [p2])
                      clear p1 p2
                      go_wp2_with fail
                      go_roundw
                      case rel => exact ⟨pos + 1, Lib.hid ⟨K1M.out, I1.out, HLT.out, B1.out, hlt, fun j hj => by
                        rcases Nat.lt_or_eq_of_le (Nat.le_of_lt_succ hj) with h | h
                        · exact HOKS.out j h
                        · rw [h, HC.out]; exact HOK.out⟩⟩
                      case measure =>
                        rw [HM0.out, iterPos_it I1.out]
                        omega
                    · have f2 : decide (m.eg > m.sg) = false := by simpa using p2
                      have f3 : decide (m.sg < m.eg) = false := by simpa using p2
                      have HOK := Lib.hid (show okC 103 m = false by unfold okC; simp [p1]; omega)
                      clear p1 p2
                      go_wp2_with fail
                      go_ret
                      exact ⟨by rw [HR3.out, letters_no hlt (by rw [HC.out]; exact HOK.out)]; rfl, B1.out⟩
                · -- 98
                  rw [show ((98 : Nat) : Int) = 98 from rfl] at hnx
                  have m6 := K1M.out.cell 6
                  have m7 := K1M.out.cell 7
                  have m10 := K1M.out.cell 10
                  simp only [mvC, List.getElem?_toArray, List.getElem?_cons_zero, List.getElem?_cons_succ] at m6 m7 m10
                  cases hb : m.some_ with
                  | true =>
                    rw [hb] at m10
                    have HOK := Lib.hid (show okC 98 m = true by unfold okC; simp [hb])
                    clear hb
                    go_wp2_with fail
                    go_roundw
                    case rel => exact ⟨pos + 1, Lib.hid ⟨K1M.out, I1.out, HLT.out, B1.out, hlt, fun j hj => by
                      rcases Nat.lt_or_eq_of_le (Nat.le_of_lt_succ hj) with h | h
                      · exact HOKS.out j h
                      · rw [h, HC.out]; exact HOK.out⟩⟩
                    case measure =>
                      rw [HM0.out, iterPos_it I1.out]
                      omega
                  | false =>
                    rw [hb] at m10
                    by_cases p1 : m.sg = 0
                    · have f1 : (m.sg == 0) = true := by simpa using p1
                      by_cases p2 : m.so = 0
                      · have f2 : (m.so == 0) = true := by simpa using p2
                        have HOK := Lib.hid (show okC 98 m = true by unfold okC; simp [p1, p2])
                        clear p1 p2 hb
                        go_wp2_with fail
                        go_roundw
                        case rel => exact ⟨pos + 1, Lib.hid ⟨K1M.out, I1.out, HLT.out, B1.out, hlt, fun j hj => by
                          rcases Nat.lt_or_eq_of_le (Nat.le_of_lt_succ hj) with h | h
                          · exact HOKS.out j h
                          · rw [h, HC.out]; exact HOK.out⟩⟩
                        case measure =>
                          rw [HM0.out, iterPos_it I1.out]
                          omega
                      · have f2 : (m.so == 0) = false := by simpa using p2
                        have HOK := Lib.hid (show okC 98 m = false by unfold okC; simp [hb, p2])
                        clear p1 p2 hb
                        go_wp2_with fail
                        go_ret
                        exact ⟨by rw [HR3.out, letters_no hlt (by rw [HC.out]; exact HOK.out)]; rfl, B1.out⟩
                    · have f1 : (m.sg == 0) = false := by simpa using p1
                      have HOK := Lib.hid (show okC 98 m = false by unfold okC; simp [hb, p1])
                      clear p1 hb
                      go_wp2_with fail
                      go_ret
                      exact ⟨by rw [HR3.out, letters_no hlt (by rw [HC.out]; exact HOK.out)]; rfl, B1.out⟩
                · -- 99
                  rw [show ((99 : Nat) : Int) = 99 from rfl] at hnx
                  have HOK := Lib.hid (show okC 99 m = true by rfl)
                  go_wp2_with fail
                  go_roundw
                  case rel => exact ⟨pos + 1, Lib.hid ⟨K1M.out, I1.out, HLT.out, B1.out, hlt, fun j hj => by
                    rcases Nat.lt_or_eq_of_le (Nat.le_of_lt_succ hj) with h | h
                    · exact HOKS.out j h
                    · rw [h, HC.out]; exact HOK.out⟩⟩
                  case measure =>
                    rw [HM0.out, iterPos_it I1.out]
                    omega
                · -- 114
                  rw [show ((114 : Nat) : Int) = 114 from rfl] at hnx
                  have HOK := Lib.hid (show okC 114 m = true by rfl)
                  go_wp2_with fail
                  go_roundw
                  case rel => exact ⟨pos + 1, Lib.hid ⟨K1M.out, I1.out, HLT.out, B1.out, hlt, fun j hj => by
                    rcases Nat.lt_or_eq_of_le (Nat.le_of_lt_succ hj) with h | h
                    · exact HOKS.out j h
                    · rw [h, HC.out]; exact HOK.out⟩⟩
                  case measure =>
                    rw [HM0.out, iterPos_it I1.out]
                    omega
                · -- 110
                  rw [show ((110 : Nat) : Int) = 110 from rfl] at hnx
                  have HOK := Lib.hid (show okC 110 m = true by rfl)
                  go_wp2_with fail
                  go_roundw
                  case rel => exact ⟨pos + 1, Lib.hid ⟨K1M.out, I1.out, HLT.out, B1.out, hlt, fun j hj => by
                    rcases Nat.lt_or_eq_of_le (Nat.le_of_lt_succ hj) with h | h
                    · exact HOKS.out j h
                    · rw [h, HC.out]; exact HOK.out⟩⟩
                  case measure =>
                    rw [HM0.out, iterPos_it I1.out]
                    omega
                · -- 118
                  rw [show ((118 : Nat) : Int) = 118 from rfl] at hnx
                  have HOK := Lib.hid (show okC 118 m = true by rfl)
                  go_wp2_with fail
                  go_roundw
                  case rel => exact ⟨pos + 1, Lib.hid ⟨K1M.out, I1.out, HLT.out, B1.out, hlt, fun j hj => by
                    rcases Nat.lt_or_eq_of_le (Nat.le_of_lt_succ hj) with h | h
                    · exact HOKS.out j h
                    · rw [h, HC.out]; exact HOK.out⟩⟩
                  case measure =>
                    rw [HM0.out, iterPos_it I1.out]
                    omega
                · -- 108
                  rw [show ((108 : Nat) : Int) = 108 from rfl] at hnx
                  have m15 := K1M.out.cell 15
                  simp only [mvC, List.getElem?_toArray, List.getElem?_cons_zero, List.getElem?_cons_succ] at m15
                  by_cases p1 : 1 ≤ m.vers.length
                  · have f1 : decide (((m.vers.length : Nat) : Int) ≥ 1) = true := decide_eq_true (by omega)
                    have f2 : decide (1 ≤ ((m.vers.length : Nat) : Int)) = true := decide_eq_true (by omega)
                    have f3 : decide (1 ≤ m.vers.length) = true := decide_eq_true (by omega)
                    have f4 : decide (0 < m.vers.length) = true := decide_eq_true (by omega)
                    by_cases p2 : m.vers.length ≤ 8
                    · have q1 : decide (((m.vers.length : Nat) : Int) ≤ 8) = true := decide_eq_true (by omega)
                      have q2 : decide (m.vers.length ≤ 8) = true := decide_eq_true (by omega)
                      have HOK := Lib.hid (show okC 108 m = true by unfold okC; simp [p1, p2])
                      clear p1 p2
                      go_wp2_with fail
                      go_roundw
                      case rel => exact ⟨pos + 1, Lib.hid ⟨K1M.out, I1.out, HLT.out, B1.out, hlt, fun j hj => by
                        rcases Nat.lt_or_eq_of_le (Nat.le_of_lt_succ hj) with h | h
                        · exact HOKS.out j h
                        · rw [h, HC.out]; exact HOK.out⟩⟩
                      case measure =>
                        rw [HM0.out, iterPos_it I1.out]
                        omega
                    · have q1 : decide (((m.vers.length : Nat) : Int) ≤ 8) = false := decide_eq_false (by omega)
                      have q2 : decide (m.vers.length ≤ 8) = false := decide_eq_false (by omega)
                      have HOK := Lib.hid (show okC 108 m = false by unfold okC; simp [p2])
                      clear p1 p2
                      go_wp2_with fail
                      go_ret
                      exact ⟨by rw [HR3.out, letters_no hlt (by rw [HC.out]; exact HOK.out)]; rfl, B1.out⟩
                  · have f1 : decide (((m.vers.length : Nat) : Int) ≥ 1) = false := decide_eq_false (by omega)
                    have f2 : decide (1 ≤ ((m.vers.length : Nat) : Int)) = false := decide_eq_false (by omega)
                    have f3 : decide (1 ≤ m.vers.length) = false := decide_eq_false (by omega)
                    have f4 : decide (0 < m.vers.length) = false := decide_eq_false (by omega)
                    have HOK := Lib.hid (show okC 108 m = false by unfold okC; simp [f3])
                    clear p1
                    go_wp2_with fail
                    go_ret
                    exact ⟨by rw [HR3.out, letters_no hlt (by rw [HC.out]; exact HOK.out)]; rfl, B1.out⟩
                · -- 45
                  rw [show ((45 : Nat) : Int) = 45 from rfl] at hnx
                  have HOK := Lib.hid (show okC 45 m = true by rfl)
                  go_wp2_with fail
                  go_roundw
                  case rel => exact ⟨pos + 1, Lib.hid ⟨K1M.out, I1.out, HLT.out, B1.out, hlt, fun j hj => by
                    rcases Nat.lt_or_eq_of_le (Nat.le_of_lt_succ hj) with h | h
                    · exact HOKS.out j h
                    · rw [h, HC.out]; exact HOK.out⟩⟩
                  case measure =>
                    rw [HM0.out, iterPos_it I1.out]
                    omega
              · have hnx : ∀ ty, (Instr.next (.pointer (some ⟨w7.heap.size, 0, none⟩)) true ty).run Tryd.prog wr = .ok (.tuple #[.bool false]) wr := fun ty => run_next_it_end wr w7.heap.size s pos ty (by rw [← HGI.out]; exact HI.out.it) hlt
                have HRT := Lib.hid (show R = true by rw [HR3.out]; exact letters_yes (fun j hj => HI.out.ok j (by have := HI.out.le; omega)))
                have BB := Lib.hid HI.out.bel
                clear HI
                go_wp2_with fail
                go_ret
                exact ⟨by rw [HRT.out]; rfl, BB.out⟩
end Go.Proofs.YtfedofoadfipcaaDoor
