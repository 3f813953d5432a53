/-
  The reference's Text and num.
-/
import Derived.Test.YtfedofoadfipcaaDoorWrdC
import Derived.Test.YtfedofoadfipcaaDoorWordO
import Derived.Test.YtfedofoadfipcaaDoorVintG
import Derived.Deep.RegionHeld
import Derived.Deep.MidRow
import Derived.Test.YtfedofoadfipcaaDoorWordY
namespace Go.Proofs.YtfedofoadfipcaaDoor
open Go.RowKit
set_option linter.unusedVariables false
set_option linter.unusedSimpArgs false
theorem refTextW (A : Option Addr) (c : Nat) (l : List Int) (w : World) (hr : Rd w A l) (hl : l.length ≤ 1000000) :
    Calls Tryd.prog 30 #[.slice A l.length c] w fun r w' => ∃ A' c', r = .returned (.slice A' (vtext l).length c') ∧ Own w' w.heap.size A' c' (vtext l) ∧ Below w.heap.size w w' := by
  have HN := Lib.hid (refNum_ok (l.length : Int) w (by omega) (by omega))
  have hv8 : (venc (l.length : Int)).length ≤ 8 := (venc_le _ (by omega) (by omega)).2.1
  obtain ⟨X, hX⟩ : ∃ X, X = vtext l := ⟨_, rfl⟩
  rw [← hX]
  unfold vtext at hX
  obtain ⟨v, hv⟩ : ∃ v, v = venc (l.length : Int) := ⟨_, rfl⟩
  rw [← hv] at HN hX hv8
  have HX := Lib.hid hX
  have HR := Lib.hid hr
  have hw64 : IntKind.u64.wrap (l.length : Int) = (l.length : Int) := by rw [IntKind.wrap_u64]; omega
  clear hX hv hr
  go_enter Tryd.func30, Tryd.ntmps30
  go_wp2_with fail
  refine HN.out.mono ?_
  rintro e w1 ⟨A1, c1, rfl, o1, b1⟩
  have O1 := Lib.hid o1
  have B1 := Lib.hid b1
  have R1 := Lib.hid (Rd.below HR.out b1)
  clear o1 b1 HN
  go_wp2_with (at_builtin
               go_must (refine wpList_appW rfl (.tmp 12) (.tmp 13) rfl w.heap.size (l := v) (news := l) X HX.out rfl rfl O1.out R1.out (by omega) B1.out.size ?_)
               intro A3 c3 w3 o3 g3 b3
               have O3 := Lib.hid o3
               have B3 := Lib.hid (B1.out.trans b3)
               clear o3 g3 b3)
  go_ret
  exact ⟨A3, c3, rfl, O3.out, B3.out⟩
theorem refNums_any (A : Option Addr) (c : Nat) (l : List Int) (w : World) (hr : RdI .u64 w A l) (hl : l.length ≤ 1000) (hw : ∀ x ∈ l, InR x) :
    Calls Tryd.prog 29 #[.slice A l.length c] w fun r w' => ∃ A' c', r = .returned (.slice A' (vencs l).length c') ∧ Own w' w.heap.size A' c' (vencs l) ∧ Below w.heap.size w w' := by
  have HR := Lib.hid hr
  obtain ⟨F, hF⟩ : ∃ F : Nat → List Int, F = fun k => vencs (l.take k) := ⟨_, rfl⟩
  have HN := Lib.hid (fun (x : Int) (hx : InR x) w1 => refNum_ok x w1 hx.1 hx.2)
  have HW := Lib.hid (fun (k : Nat) (x : Int) (hx : l[k]? = some x) => hw x (List.mem_of_getElem? hx))
  have HFS := Lib.hid (fun (k : Nat) (x : Int) (hx : l[k]? = some x) => show F (k + 1) = F k ++ venc x by rw [hF]; exact vencs_take hx)
  have HFL := Lib.hid (show ∀ k, (F k).length ≤ 8000 by
    intro k
    rw [hF]
    have := vencs_len (l := l.take k) (fun x h => hw x (List.mem_of_mem_take h))
    rw [List.length_take] at this
    simp only
    omega)
  have F0 := Lib.hid (show F 0 = [] by rw [hF]; rfl)
  have FL := Lib.hid (show F l.length = vencs l by rw [hF]; simp)
  clear hr hw hF
  go_enter Tryd.func29, Tryd.ntmps29
  go_wp2_with fail
  go_loopw [3, 10] (fun pv iv wr => ∃ (k : Nat) (A' : Option Addr) (c' : Nat), pv = .slice A' (F k).length c' ∧ iv = .int .i64 k ∧ k ≤ l.length ∧ Hid (Own wr w.heap.size A' c' (F k) ∧ Below w.heap.size w wr)) (fun _ iv _ => l.length - (intOf iv).toNat)
  case atStart => exact ⟨0, none, 0, by rw [F0.out]; rfl, rfl, by omega, Lib.hid ⟨by rw [F0.out]; exact Own.nil _ _, Below.refl _ _⟩⟩
  case round =>
    obtain ⟨k, A2, c2, rfl, rfl, hk, HI⟩ := hrel
    rename World => wr
    by_cases hlt : k < l.length
    · obtain ⟨bk, off, y, rfl, hb, hy, hc⟩ := (RdI.below HR.out HI.out.2).at_ hlt
      have N2 := Lib.hid (HN.out y (HW.out k y hy) wr)
      have hv8 : (venc y).length ≤ 8 := venc8 (HW.out k y hy)
      obtain ⟨v, hv⟩ : ∃ v, v = venc y := ⟨_, rfl⟩
      obtain ⟨P, hP⟩ : ∃ P, P = F k := ⟨_, rfl⟩
      obtain ⟨X, hX⟩ : ∃ X, X = F (k + 1) := ⟨_, rfl⟩
      have HX := Lib.hid (show X = P ++ v by rw [hX, HFS.out k y hy, hP, hv])
      have HXE := Lib.hid hX
      have hPl : P.length ≤ 8000 := by rw [hP]; exact HFL.out k
      rw [← hv] at N2 hv8
      rw [← hP] at HI ⊢
      clear hy hv hP hX
      go_wp2_with fail
      refine N2.out.mono ?_
      rintro e w2 ⟨A3, c3, rfl, o3, b3⟩
      have O3 := Lib.hid o3
      have P3 := Lib.hid (Own.below HI.out.1 b3)
      have B3 := Lib.hid (HI.out.2.trans (b3.mono HI.out.2.size))
      clear o3 b3 N2 HI
      go_wp2_with (at_builtin
                   go_must (refine wpList_appW rfl (.tmp 19) (.tmp 20) rfl w.heap.size (l := P) (news := v) X HX.out rfl rfl P3.out (Rd.of_own O3.out) (by omega) B3.out.size ?_)
                   intro A4 c4 w4 o4 g4 b4
                   have O4 := Lib.hid o4
                   have B4 := Lib.hid (B3.out.trans b4)
                   clear o4 g4 b4)
      go_roundw
      case rel => exact ⟨k + 1, A4, c4, by rw [← HXE.out], by go_num, by omega, Lib.hid (by rw [← HXE.out]; exact ⟨O4.out, B4.out⟩)⟩
      case measure => simp [intOf]; omega
    · have hd : decide (k < l.length) = false := by simpa using hlt
      have hkl : k = l.length := by omega
      subst hkl
      have hi := HI.out
      rw [FL.out] at hi ⊢
      have HB := Lib.hid hi
      clear hi HI
      go_wp2_with fail
      go_ret
      exact ⟨A2, c2, rfl, HB.out⟩
end Go.Proofs.YtfedofoadfipcaaDoor

/-
  The reference's Bytes (made by mkWrdE.py).
-/
namespace Go.Proofs.YtfedofoadfipcaaDoor
open Go.RowKit
set_option linter.unusedVariables false
set_option linter.unusedSimpArgs false
/-- What a letter writes. -/
def bytC (c : Nat) (m : MV) : List Int :=
  match c with
  | 105 => vencs [m.id]
  | 97 => vencs [m.alias_]
  | 116 => vtext m.name
  | 112 => [m.prio]
  | 111 => [m.ord]
  | 115 => vencs [m.sg, m.so]
  | 101 => vencs [m.eg, m.eo]
  | 103 => vencs [m.eg]
  | 98 => [bitI m.some_]
  | 99 => vencs [m.code]
  | 114 => vtext m.reason
  | 110 => vencs [m.n]
  | 118 => vencs [m.ver]
  | 108 => vencs [(m.vers.length : Int)] ++ vencs m.vers
  | _ => []
def bytR (s : ByteArray) (m : MV) : Nat → List Int
  | 0 => []
  | j + 1 => bytR s m j ++ bytC (chW s j) m
def bytM (m : MV) : List Int := bytR (shapeW m.kind) m (shapeW m.kind).size
def refB (m : MV) : List Int := vencs [m.kind] ++ ([((bytM m).length : Int) / 256, ((bytM m).length : Int) % 256] ++ bytM m)
/-- The numbers of a message that is right are within the bounds. -/
structure InM (m : MV) : Prop where
  id : InR m.id
  alias_ : InR m.alias_
  sg : InR m.sg
  so : InR m.so
  eg : InR m.eg
  eo : InR m.eo
  code : InR m.code
  n : InR m.n
  ver : InR m.ver
  kind : InR m.kind
  vers : ∀ x ∈ m.vers, 0 ≤ x ∧ x < 4611686018427387904
theorem lit1W (w : World) (a : Int) : OwnV (w.alloc (.cells #[.int .u64 a] 22)) w.heap.size 22 1 (some ⟨w.heap.size, 0, none⟩) 1 [a].length (IV .u64 [a]) :=
  Blk.own (Blk.new w 22 #[.int .u64 a]) (Nat.le_refl _) (by simp [maxLen]) rfl
theorem lit2W (w : World) (a b : Int) : OwnV (w.alloc (.cells #[.int .u64 a, .int .u64 b] 22)) w.heap.size 22 1 (some ⟨w.heap.size, 0, none⟩) 2 [a, b].length (IV .u64 [a, b]) :=
  Blk.own (Blk.new w 22 #[.int .u64 a, .int .u64 b]) (Nat.le_refl _) (by simp [maxLen]) rfl
theorem own_lit2E (w : World) (x y : Int) {base : Nat} (hb : base ≤ w.heap.size) : Own (w.alloc (.cells #[.int .u8 x, .int .u8 y] 5)) base (some ⟨w.heap.size, 0, none⟩) 2 [x, y] :=
  Own.new (l := [x, y]) (Blk.new w _ _) hb (by simp [maxLen])
theorem bytC_len {m : MV} (h : InM m) (h1 : m.name.length ≤ 900) (h2 : m.reason.length ≤ 900) (h3 : m.vers.length ≤ 12) (c : Nat) : (bytC c m).length ≤ 1000 := by
  have one : ∀ {x : Int}, InR x → (vencs [x]).length ≤ 8 := fun hx => by
    have := vencs_len (l := [_]) (by intro y hy; simp at hy; subst hy; exact hx)
    simpa using this
  have two : ∀ {x y : Int}, InR x → InR y → (vencs [x, y]).length ≤ 16 := fun hx hy => by
    have := vencs_len (l := [_, _]) (by intro z hz; simp at hz; rcases hz with rfl | rfl; exact hx; exact hy)
    simpa using this
  unfold bytC
  split
  · exact Nat.le_trans (one h.id) (by decide)
  · exact Nat.le_trans (one h.alias_) (by decide)
  · exact Nat.le_trans (vtext_len h1) (by decide)
  · exact Nat.le_of_ble_eq_true rfl
  · exact Nat.le_of_ble_eq_true rfl
  · exact Nat.le_trans (two h.sg h.so) (by decide)
  · exact Nat.le_trans (two h.eg h.eo) (by decide)
  · exact Nat.le_trans (one h.eg) (by decide)
  · exact Nat.le_of_ble_eq_true rfl
  · exact Nat.le_trans (one h.code) (by decide)
  · exact Nat.le_trans (vtext_len h2) (by decide)
  · exact Nat.le_trans (one h.n) (by decide)
  · exact Nat.le_trans (one h.ver) (by decide)
  · rw [List.length_append]
    have a := one (x := (m.vers.length : Int)) ⟨by omega, by omega⟩
    have b := vencs_len h.vers
    omega
  · exact Nat.zero_le _
theorem bytR_len {s : ByteArray} {m : MV} (h : InM m) (h1 : m.name.length ≤ 900) (h2 : m.reason.length ≤ 900) (h3 : m.vers.length ≤ 12) : ∀ j, (bytR s m j).length ≤ 1000 * j
  | 0 => Nat.le_refl _
  | j + 1 => by
    have a := bytR_len (s := s) h h1 h2 h3 j
    have b := bytC_len h h1 h2 h3 (chW s j)
    unfold bytR
    rw [List.length_append]
    omega
theorem shape_size (k : Int) : (shapeW k).size ≤ 10 := by
  unfold shapeW
  (repeat' split) <;> decide
theorem step_appW {ops : Array Oper} {o : Oper} {a : Act} {w : World} {K : Act → World → Prop} {Q : Exit → Act → World → Prop} (hgd : o.guard = none) (s x : Operand)
    (ho : o.op = .call { callee := .builtin .append, args := #[s, x], argTypes := #[23, 23] })
    (base : Nat) {c d : Nat} {A B : Option Addr} {l news : List Int} (X : List Int) (hX : X = l ++ news) (hs : a.eval s = .slice A l.length c) (hx : a.eval x = .slice B news.length d) (hown : Own w base A c l) (hr : Rd w B news)
    (hlen : l.length + news.length ≤ 70368744177664) (hbase : base ≤ w.heap.size)
    (h : ∀ A' c' w', Own w' base A' c' X → Below base w w' → K (a.put o.dst (.slice A' X.length c')) w') :
    if Region.wanted o (yielded ops a.tmps) = true then Oper.wp Tryd.prog o a w K Q else K (a.put o.dst undef) w := by
  subst hX
  refine step_appV hgd s x 23 5 1 1 (.int .u8 0) ho Tryd.underlying23 info_u8 rfl (by omega) base hs hx hown hr (by intro u hu; simp only [U8, List.mem_map] at hu; obtain ⟨x, _, rfl⟩ := hu; rfl) (by unfold maxLen; omega) (by omega) hbase ?_
  intro A' c' w' h1 h2 h3 _
  have := h A' c' w' (by unfold Own; rw [show U8 (l ++ news) = U8 l ++ U8 news by simp [U8], List.length_append]; exact h1) h3
  rwa [List.length_append] at this
structure BytI (w wr : World) (B0 gi : Nat) (s : ByteArray) (m : MV) (F : Nat → List Int) (nA : Option Addr) (nc : Nat) (rA : Option Addr) (rc : Nat) (vA : Option Addr) (vc : Nat) (A : Option Addr) (c : Nat) (pos : Nat) : Prop where
  own : Own wr B0 A c (F pos)
  km : Blk wr w.heap.size 28 (mvC m nA nc rA rc vA vc)
  it : It wr gi s pos
  bel : Below w.heap.size w wr
  z : B0 ≤ wr.heap.size
  le : pos ≤ s.size
/-- What the reference's Bytes answers. -/
structure RBytesTo (w w' : World) (m : MV) (r : Ending) : Prop where
  ok : rightM m = true → ∃ A' c', r = .returned (.tuple #[.slice A' (refB m).length c', .int .i64 0]) ∧ Own w' w.heap.size A' c' (refB m)
  no : rightM m = false → r = .returned (.tuple #[.slice none 0 0, .int .i64 4])
  bel : Below w.heap.size w w'
set_option maxRecDepth 100000 in
set_option maxHeartbeats 6400000 in
theorem refBytesW_any (m : MV) (nA : Option Addr) (nc : Nat) (rA : Option Addr) (rc : Nat) (vA : Option Addr) (vc : Nat) (w : World) (hn : Rd w nA m.name) (hr : Rd w rA m.reason) (hv : RdI .u64 w vA m.vers)
    (y1 : Bytes m.name) (y2 : Bytes m.reason) (h1 : m.name.length ≤ 900) (h2 : m.reason.length ≤ 900) (h3 : m.vers.length ≤ 12) (hin : rightM m = true → InM m) :
    Calls Tryd.prog 12 #[.agg (mvC m nA nc rA rc vA vc)] w fun r w' => RBytesTo w w' m r := by
  obtain ⟨W, hW⟩ : ∃ W, W = w.alloc (.cells #[.int .u64 m.kind, .int .u64 m.id, .int .u64 m.alias_, .slice nA m.name.length nc, .int .u8 m.prio, .int .u8 m.ord, .int .u64 m.sg, .int .u64 m.so, .int .u64 m.eg, .int .u64 m.eo, .bool m.some_, .int .u64 m.code, .slice rA m.reason.length rc, .int .u64 m.n, .int .u64 m.ver, .slice vA m.vers.length vc] 28) := ⟨_, rfl⟩
  have KM := Lib.hid (show Blk W w.heap.size 28 (mvC m nA nc rA rc vA vc) by rw [hW]; exact Blk.new _ _ _)
  have bw : Below w.heap.size w W := by rw [hW]; exact (Below.refl _ _).alloc (Nat.le_refl _) _
  have BM := Lib.hid bw
  have HRD := Lib.hid (And.intro hn (And.intro hr hv))
  have CR := Lib.hid (refRight_any m nA nc rA rc vA vc W (Rd.below hn bw) (Rd.below hr bw) (RdI.below hv bw) y1 y2 (by omega) (by omega) (by omega))
  obtain ⟨P0, hP0⟩ : ∃ P0 : World → Ending → Prop, P0 = fun w' r => RBytesTo w w' m r := ⟨_, rfl⟩
  have HP := Lib.hid hP0
  rw [show (fun r w' => RBytesTo w w' m r) = fun r w' => P0 w' r by rw [hP0]]
  obtain ⟨rt, hrt⟩ : ∃ rt, rt = rightM m := ⟨_, rfl⟩
  rw [← hrt] at CR hin
  have HRT := Lib.hid hrt
  have HIN0 := Lib.hid hin
  obtain ⟨s, hs⟩ : ∃ s, s = shapeW m.kind := ⟨_, rfl⟩
  have CS := Lib.hid (fun W' => refShape_any m.kind W')
  rw [← hs] at CS
  have HL := Lib.hid (show ∀ (j : Nat) (h : j < s.size), (s[j]'h).toNat ∈ lettersW by rw [hs]; exact shape_letters m.kind)
  have hs10 : s.size ≤ 10 := by rw [hs]; exact shape_size m.kind
  have HSS := Lib.hid hs
  have HW := Lib.hid hW
  unfold mvC
  clear hW hP0 hrt hs hn hr hv y1 y2 bw hin
  go_enter Tryd.func12, Tryd.ntmps12
  go_wp2_with fail
  rw [← HW.out]
  refine CR.out.mono ?_
  rintro e wq ⟨rfl, b1⟩
  have KM1 := Lib.hid (KM.out.below b1 KM.out.lt)
  have BM1 := Lib.hid (BM.out.trans (b1.mono BM.out.size))
  clear b1 KM BM CR HW
  have km := KM1.out
  have zm := km.lt
  have d0 := km.cell 0
  simp only [mvC, List.getElem?_toArray, List.getElem?_cons_zero, List.getElem?_cons_succ] at d0
  clear km
  cases rt with
  | false =>
    go_wp2_with fail
    rw [HP.out]
    exact ⟨fun h => (by rw [← HRT.out] at h; cases h), fun _ => rfl, BM1.out⟩
  | true =>
    have HIN := Lib.hid (HIN0.out rfl)
    go_wp2_with fail
    refine (CS.out wq).mono ?_
    rintro e w0 ⟨rfl, hh⟩
    subst hh
    clear CS
    obtain ⟨gi, hgi⟩ : ∃ g, g = wq.heap.size := ⟨_, rfl⟩
    obtain ⟨B0, hB0⟩ : ∃ B, B = gi + 1 := ⟨_, rfl⟩
    have HGI := Lib.hid hgi
    have HORD := Lib.hid (show w.heap.size < gi ∧ B0 = gi + 1 from ⟨by rw [hgi]; exact zm, hB0⟩)
    obtain ⟨F, hF⟩ : ∃ F, F = bytR s m := ⟨_, rfl⟩
    have HF0 := Lib.hid (show F 0 = [] by rw [hF]; rfl)
    have HFS := Lib.hid (show ∀ j, F (j + 1) = F j ++ bytC (chW s j) m by rw [hF]; intro j; rfl)
    have HFL := Lib.hid (show ∀ j, j ≤ s.size → (F j).length ≤ 10000 by rw [hF]; intro j hj; have := bytR_len (s := s) HIN.out h1 h2 h3 j; omega)
    have HVL := Lib.hid (fun c => bytC_len HIN.out h1 h2 h3 c)
    have HFE := Lib.hid (show F s.size = bytM m by rw [hF, HSS.out]; rfl)
    have I0 := Lib.hid (show BytI w (wq.iter s 0) B0 gi s m F nA nc rA rc vA vc none 0 0 from ⟨by rw [HF0.out]; exact Own.nil _ _, KM1.out.below (iter_below wq s 0) zm, by rw [hgi]; exact It.new wq s, BM1.out.trans ((iter_below wq s 0).mono BM1.out.size), by rw [hB0, hgi]; simp [World.iter], Nat.zero_le _⟩)
    clear hgi hB0 hF KM1 BM1 d0 zm
    go_wp2_with fail
    go_loopw [4] (fun pv wr => ∃ (pos : Nat) (A : Option Addr) (c : Nat), pv = .slice A (F pos).length c ∧ Hid (BytI w wr B0 gi s m F nA nc rA rc vA vc A c pos)) (fun _ wr => s.size - wr.iterPos gi)
    case atStart => exact ⟨0, none, 0, by rw [HF0.out]; rfl, I0⟩
    case round =>
      obtain ⟨pos, A, c, rfl, HI⟩ := hrel
      rename World => wr
      by_cases hlt : pos < s.size
      · have hin := HL.out pos hlt
        obtain ⟨w1, hw1⟩ : ∃ w1, w1 = itSet wr gi s (pos + 1) := ⟨_, rfl⟩
        obtain ⟨ch, hch⟩ : ∃ ch, ch = (s[pos]'hlt).toNat := ⟨_, rfl⟩
        have ha : (s[pos]'hlt).toNat < 128 := by
          have : ∀ c ∈ lettersW, c < 128 := by decide
          exact this _ hin
        have hnx : ∀ ty, (Instr.next (.pointer (some ⟨wq.heap.size, 0, none⟩)) true ty).run Tryd.prog wr = .ok (.tuple #[.bool true, .int .i64 pos, .int .i32 ch]) w1 := fun ty => by
          rw [hch, hw1, HGI.out]
          exact run_next_it wr wq.heap.size s pos ty (by rw [← HGI.out]; exact HI.out.it) hlt ha
        have G1 : wr.grownBy w1 (some gi) := by rw [hw1]; exact itSet_grown wr gi s (pos + 1)
        have hord := HORD.out
        have K1M := Lib.hid (HI.out.km.grown G1 (fun e => by injection e with e; omega))
        have I1 := Lib.hid (show It w1 gi s (pos + 1) by rw [hw1]; exact itSet_it HI.out.it _)
        have B1 := Lib.hid (below_gsW HI.out.bel G1 (by omega) HI.out.bel.size)
        have P1 := Lib.hid (show Own w1 B0 A c (F pos) from OwnV.apart (show OwnV wr B0 5 1 A c (F pos).length (U8 (F pos)) from HI.out.own) G1 (fun kk hk e => by injection e with e; have := OwnV.row_ge (show OwnV wr B0 5 1 A c (F pos).length (U8 (F pos)) from HI.out.own) kk hk; omega))
        have hz1 : B0 ≤ w1.heap.size := Nat.le_trans HI.out.z G1.size
        have HGB := Lib.hid (show w.heap.size ≤ B0 ∧ B0 ≤ w1.heap.size ∧ w.heap.size < B0 ∧ gi < B0 from ⟨by omega, hz1, by omega, by omega⟩)
        have HM0 := Lib.hid (iterPos_it HI.out.it)
        have HC := Lib.hid (show chW s pos = ch by unfold chW; rw [dif_pos hlt, hch])
        have hPl := HFL.out pos (Nat.le_of_lt hlt)
        obtain ⟨P, hP⟩ : ∃ P, P = F pos := ⟨_, rfl⟩
        rw [← hP] at P1 hPl ⊢
        have HPE := Lib.hid hP.symm
        have zm := K1M.out.lt
        rw [← hch] at hin
        clear hch hw1 ha HI I0 G1 hord hz1 hP
        simp only [lettersW, List.mem_cons, List.not_mem_nil, or_false] at hin
        rcases hin with rfl | rfl | rfl | rfl | rfl | rfl | rfl | rfl | rfl | rfl | rfl | rfl | rfl | rfl | rfl
        · -- 105
          rw [show ((105 : Nat) : Int) = 105 from rfl] at hnx
          obtain ⟨V, hV⟩ : ∃ V, V = bytC 105 m := ⟨_, rfl⟩
          obtain ⟨X, hX⟩ : ∃ X, X = F (pos + 1) := ⟨_, rfl⟩
          have HX := Lib.hid (show X = P ++ V by rw [hX, HFS.out pos, HC.out, HPE.out, hV])
          have HXE := Lib.hid hX.symm
          have hVl : V.length ≤ 1000 := by rw [hV]; exact HVL.out 105
          have m1 := K1M.out.cell 1
          simp only [mvC, List.getElem?_toArray, List.getElem?_cons_zero, List.getElem?_cons_succ] at m1
          have CN : Calls Tryd.prog 29 #[.slice (some ⟨w1.heap.size, 0, none⟩) 1 1] (w1.alloc (.cells #[.int .u64 m.id] 22)) fun r w' => ∃ A' c', r = .returned (.slice A' V.length c') ∧ Own w' (w1.alloc (.cells #[.int .u64 m.id] 22)).heap.size A' c' V ∧ Below (w1.alloc (.cells #[.int .u64 m.id] 22)).heap.size (w1.alloc (.cells #[.int .u64 m.id] 22)) w' := by
            rw [hV]
            exact refNums_any (some ⟨w1.heap.size, 0, none⟩) 1 [m.id] _ (OwnV.reads (lit1W w1 m.id)) (Nat.le_of_ble_eq_true rfl) (by intro x hx; simp at hx; subst hx <;> first | exact HIN.out.id | exact HIN.out.id)
          have CN2 := Lib.hid CN
          clear hV hX CN
          go_wp2_with fail
          refine CN2.out.mono ?_
          rintro e w2 ⟨A2, c2, rfl, o2, b2⟩
          have bal := ((Below.refl w1.heap.size w1).alloc (Nat.le_refl _) (.cells #[.int .u64 m.id] 22)).trans (b2.mono (by simp))
          have RV := Lib.hid (Rd.of_own o2)
          have P2 := Lib.hid (Own.below P1.out bal)
          have B2 := Lib.hid (bal.mono HGB.out.2.1)
          clear o2 b2 bal CN2
          go_wp2_with (at_builtin
                       go_must (refine wpList_appW rfl (.tmp 21) (.tmp 25) rfl B0 (l := P) (news := V) X HX.out rfl rfl P2.out RV.out (by omega) (Nat.le_trans HGB.out.2.1 B2.out.size) ?_)
                       intro A3 c3 w3 o3 g3 b3
                       have O3 := Lib.hid o3
                       have B3 := Lib.hid (B2.out.trans b3)
                       clear o3 g3 b3)
          go_roundw
          case rel => exact ⟨pos + 1, A3, c3, by rw [HXE.out], Lib.hid ⟨by rw [HXE.out]; exact O3.out, K1M.out.below B3.out HGB.out.2.2.1, I1.out.below B3.out HGB.out.2.2.2, B1.out.trans (B3.out.mono HGB.out.1), Nat.le_trans HGB.out.2.1 B3.out.size, hlt⟩⟩
          case measure =>
            rw [HM0.out, iterPos_it (I1.out.below B3.out HGB.out.2.2.2)]
            omega
        · -- 97
          rw [show ((97 : Nat) : Int) = 97 from rfl] at hnx
          obtain ⟨V, hV⟩ : ∃ V, V = bytC 97 m := ⟨_, rfl⟩
          obtain ⟨X, hX⟩ : ∃ X, X = F (pos + 1) := ⟨_, rfl⟩
          have HX := Lib.hid (show X = P ++ V by rw [hX, HFS.out pos, HC.out, HPE.out, hV])
          have HXE := Lib.hid hX.symm
          have hVl : V.length ≤ 1000 := by rw [hV]; exact HVL.out 97
          have m2 := K1M.out.cell 2
          simp only [mvC, List.getElem?_toArray, List.getElem?_cons_zero, List.getElem?_cons_succ] at m2
          have CN : Calls Tryd.prog 29 #[.slice (some ⟨w1.heap.size, 0, none⟩) 1 1] (w1.alloc (.cells #[.int .u64 m.alias_] 22)) fun r w' => ∃ A' c', r = .returned (.slice A' V.length c') ∧ Own w' (w1.alloc (.cells #[.int .u64 m.alias_] 22)).heap.size A' c' V ∧ Below (w1.alloc (.cells #[.int .u64 m.alias_] 22)).heap.size (w1.alloc (.cells #[.int .u64 m.alias_] 22)) w' := by
            rw [hV]
            exact refNums_any (some ⟨w1.heap.size, 0, none⟩) 1 [m.alias_] _ (OwnV.reads (lit1W w1 m.alias_)) (Nat.le_of_ble_eq_true rfl) (by intro x hx; simp at hx; subst hx <;> first | exact HIN.out.alias_ | exact HIN.out.alias_)
          have CN2 := Lib.hid CN
          clear hV hX CN
          go_wp2_with fail
          refine CN2.out.mono ?_
          rintro e w2 ⟨A2, c2, rfl, o2, b2⟩
          have bal := ((Below.refl w1.heap.size w1).alloc (Nat.le_refl _) (.cells #[.int .u64 m.alias_] 22)).trans (b2.mono (by simp))
          have RV := Lib.hid (Rd.of_own o2)
          have P2 := Lib.hid (Own.below P1.out bal)
          have B2 := Lib.hid (bal.mono HGB.out.2.1)
          clear o2 b2 bal CN2
          go_wp2_with (at_builtin
                       go_must (refine wpList_appW rfl (.tmp 29) (.tmp 33) rfl B0 (l := P) (news := V) X HX.out rfl rfl P2.out RV.out (by omega) (Nat.le_trans HGB.out.2.1 B2.out.size) ?_)
                       intro A3 c3 w3 o3 g3 b3
                       have O3 := Lib.hid o3
                       have B3 := Lib.hid (B2.out.trans b3)
                       clear o3 g3 b3)
          go_roundw
          case rel => exact ⟨pos + 1, A3, c3, by rw [HXE.out], Lib.hid ⟨by rw [HXE.out]; exact O3.out, K1M.out.below B3.out HGB.out.2.2.1, I1.out.below B3.out HGB.out.2.2.2, B1.out.trans (B3.out.mono HGB.out.1), Nat.le_trans HGB.out.2.1 B3.out.size, hlt⟩⟩
          case measure =>
            rw [HM0.out, iterPos_it (I1.out.below B3.out HGB.out.2.2.2)]
            omega
        · -- 116
          rw [show ((116 : Nat) : Int) = 116 from rfl] at hnx
          obtain ⟨V, hV⟩ : ∃ V, V = bytC 116 m := ⟨_, rfl⟩
          obtain ⟨X, hX⟩ : ∃ X, X = F (pos + 1) := ⟨_, rfl⟩
          have HX := Lib.hid (show X = P ++ V by rw [hX, HFS.out pos, HC.out, HPE.out, hV])
          have HXE := Lib.hid hX.symm
          have hVl : V.length ≤ 1000 := by rw [hV]; exact HVL.out 116
          have m3 := K1M.out.cell 3
          simp only [mvC, List.getElem?_toArray, List.getElem?_cons_zero, List.getElem?_cons_succ] at m3
          have CN : Calls Tryd.prog 30 #[.slice nA m.name.length nc] w1 fun r w' => ∃ A' c', r = .returned (.slice A' V.length c') ∧ Own w' w1.heap.size A' c' V ∧ Below w1.heap.size w1 w' := by
            rw [hV]
            exact refTextW nA nc m.name w1 (Rd.below HRD.out.1 B1.out) (by omega)
          have CN2 := Lib.hid CN
          clear hV hX CN
          go_wp2_with fail
          refine CN2.out.mono ?_
          rintro e w2 ⟨A2, c2, rfl, o2, bal⟩
          have RV := Lib.hid (Rd.of_own o2)
          have P2 := Lib.hid (Own.below P1.out bal)
          have B2 := Lib.hid (bal.mono HGB.out.2.1)
          clear o2 bal CN2
          go_wp2_with (at_builtin
                       go_must (refine wpList_appW rfl (.tmp 37) (.tmp 40) rfl B0 (l := P) (news := V) X HX.out rfl rfl P2.out RV.out (by omega) (Nat.le_trans HGB.out.2.1 B2.out.size) ?_)
                       intro A3 c3 w3 o3 g3 b3
                       have O3 := Lib.hid o3
                       have B3 := Lib.hid (B2.out.trans b3)
                       clear o3 g3 b3)
          go_roundw
          case rel => exact ⟨pos + 1, A3, c3, by rw [HXE.out], Lib.hid ⟨by rw [HXE.out]; exact O3.out, K1M.out.below B3.out HGB.out.2.2.1, I1.out.below B3.out HGB.out.2.2.2, B1.out.trans (B3.out.mono HGB.out.1), Nat.le_trans HGB.out.2.1 B3.out.size, hlt⟩⟩
          case measure =>
            rw [HM0.out, iterPos_it (I1.out.below B3.out HGB.out.2.2.2)]
            omega
        · -- 112
          rw [show ((112 : Nat) : Int) = 112 from rfl] at hnx
          obtain ⟨V, hV⟩ : ∃ V, V = bytC 112 m := ⟨_, rfl⟩
          obtain ⟨X, hX⟩ : ∃ X, X = F (pos + 1) := ⟨_, rfl⟩
          have HX := Lib.hid (show X = P ++ V by rw [hX, HFS.out pos, HC.out, HPE.out, hV])
          have HXE := Lib.hid hX.symm
          have hVl : V.length ≤ 1000 := by rw [hV]; exact HVL.out 112
          have m4 := K1M.out.cell 4
          simp only [mvC, List.getElem?_toArray, List.getElem?_cons_zero, List.getElem?_cons_succ] at m4
          have bal := (Below.refl w1.heap.size w1).alloc (Nat.le_refl _) (.cells #[.int .u8 m.prio] 5)
          have RV := Lib.hid (Rd.of_own (own_litW w1 m.prio (Nat.le_refl _)))
          have P2 := Lib.hid (Own.below P1.out bal)
          have B2 := Lib.hid (bal.mono HGB.out.2.1)
          have HV := Lib.hid (show V = [m.prio] by rw [hV]; rfl)
          have HX1 := Lib.hid (show X = P ++ [m.prio] by rw [HX.out, HV.out])
          clear hV hX bal
          go_wp2_with (at_builtin
                       go_must (refine wpList_appW rfl (.tmp 44) (.tmp 47) rfl B0 (l := P) (news := [m.prio]) X HX1.out rfl rfl P2.out RV.out (by simp; omega) (Nat.le_trans HGB.out.2.1 B2.out.size) ?_)
                       intro A3 c3 w3 o3 g3 b3
                       have O3 := Lib.hid o3
                       have B3 := Lib.hid (B2.out.trans b3)
                       clear o3 g3 b3)
          go_roundw
          case rel => exact ⟨pos + 1, A3, c3, by rw [HXE.out], Lib.hid ⟨by rw [HXE.out]; exact O3.out, K1M.out.below B3.out HGB.out.2.2.1, I1.out.below B3.out HGB.out.2.2.2, B1.out.trans (B3.out.mono HGB.out.1), Nat.le_trans HGB.out.2.1 B3.out.size, hlt⟩⟩
          case measure =>
            rw [HM0.out, iterPos_it (I1.out.below B3.out HGB.out.2.2.2)]
            omega
        · -- 111
          rw [show ((111 : Nat) : Int) = 111 from rfl] at hnx
          obtain ⟨V, hV⟩ : ∃ V, V = bytC 111 m := ⟨_, rfl⟩
          obtain ⟨X, hX⟩ : ∃ X, X = F (pos + 1) := ⟨_, rfl⟩
          have HX := Lib.hid (show X = P ++ V by rw [hX, HFS.out pos, HC.out, HPE.out, hV])
          have HXE := Lib.hid hX.symm
          have hVl : V.length ≤ 1000 := by rw [hV]; exact HVL.out 111
          have m5 := K1M.out.cell 5
          simp only [mvC, List.getElem?_toArray, List.getElem?_cons_zero, List.getElem?_cons_succ] at m5
          have bal := (Below.refl w1.heap.size w1).alloc (Nat.le_refl _) (.cells #[.int .u8 m.ord] 5)
          have RV := Lib.hid (Rd.of_own (own_litW w1 m.ord (Nat.le_refl _)))
          have P2 := Lib.hid (Own.below P1.out bal)
          have B2 := Lib.hid (bal.mono HGB.out.2.1)
          have HV := Lib.hid (show V = [m.ord] by rw [hV]; rfl)
          have HX1 := Lib.hid (show X = P ++ [m.ord] by rw [HX.out, HV.out])
          clear hV hX bal
          go_wp2_with (at_builtin
                       go_must (refine wpList_appW rfl (.tmp 51) (.tmp 54) rfl B0 (l := P) (news := [m.ord]) X HX1.out rfl rfl P2.out RV.out (by simp; omega) (Nat.le_trans HGB.out.2.1 B2.out.size) ?_)
                       intro A3 c3 w3 o3 g3 b3
                       have O3 := Lib.hid o3
                       have B3 := Lib.hid (B2.out.trans b3)
                       clear o3 g3 b3)
          go_roundw
          case rel => exact ⟨pos + 1, A3, c3, by rw [HXE.out], Lib.hid ⟨by rw [HXE.out]; exact O3.out, K1M.out.below B3.out HGB.out.2.2.1, I1.out.below B3.out HGB.out.2.2.2, B1.out.trans (B3.out.mono HGB.out.1), Nat.le_trans HGB.out.2.1 B3.out.size, hlt⟩⟩
          case measure =>
            rw [HM0.out, iterPos_it (I1.out.below B3.out HGB.out.2.2.2)]
            omega
        · -- 115
          rw [show ((115 : Nat) : Int) = 115 from rfl] at hnx
          obtain ⟨V, hV⟩ : ∃ V, V = bytC 115 m := ⟨_, rfl⟩
          obtain ⟨X, hX⟩ : ∃ X, X = F (pos + 1) := ⟨_, rfl⟩
          have HX := Lib.hid (show X = P ++ V by rw [hX, HFS.out pos, HC.out, HPE.out, hV])
          have HXE := Lib.hid hX.symm
          have hVl : V.length ≤ 1000 := by rw [hV]; exact HVL.out 115
          have m6 := K1M.out.cell 6
          have m7 := K1M.out.cell 7
          simp only [mvC, List.getElem?_toArray, List.getElem?_cons_zero, List.getElem?_cons_succ] at m6 m7
          have CN : Calls Tryd.prog 29 #[.slice (some ⟨w1.heap.size, 0, none⟩) 2 2] (w1.alloc (.cells #[.int .u64 m.sg, .int .u64 m.so] 22)) fun r w' => ∃ A' c', r = .returned (.slice A' V.length c') ∧ Own w' (w1.alloc (.cells #[.int .u64 m.sg, .int .u64 m.so] 22)).heap.size A' c' V ∧ Below (w1.alloc (.cells #[.int .u64 m.sg, .int .u64 m.so] 22)).heap.size (w1.alloc (.cells #[.int .u64 m.sg, .int .u64 m.so] 22)) w' := by
            rw [hV]
            exact refNums_any (some ⟨w1.heap.size, 0, none⟩) 2 [m.sg, m.so] _ (OwnV.reads (lit2W w1 m.sg m.so)) (Nat.le_of_ble_eq_true rfl) (by intro x hx; simp at hx; rcases hx with rfl | rfl <;> first | exact HIN.out.sg | exact HIN.out.so)
          have CN2 := Lib.hid CN
          clear hV hX CN
          go_wp2_with fail
          refine CN2.out.mono ?_
          rintro e w2 ⟨A2, c2, rfl, o2, b2⟩
          have bal := ((Below.refl w1.heap.size w1).alloc (Nat.le_refl _) (.cells #[.int .u64 m.sg, .int .u64 m.so] 22)).trans (b2.mono (by simp))
          have RV := Lib.hid (Rd.of_own o2)
          have P2 := Lib.hid (Own.below P1.out bal)
          have B2 := Lib.hid (bal.mono HGB.out.2.1)
          clear o2 b2 bal CN2
          go_wp2_with (at_builtin
                       go_must (refine wpList_appW rfl (.tmp 58) (.tmp 66) rfl B0 (l := P) (news := V) X HX.out rfl rfl P2.out RV.out (by omega) (Nat.le_trans HGB.out.2.1 B2.out.size) ?_)
                       intro A3 c3 w3 o3 g3 b3
                       have O3 := Lib.hid o3
                       have B3 := Lib.hid (B2.out.trans b3)
                       clear o3 g3 b3)
          go_roundw
          case rel => exact ⟨pos + 1, A3, c3, by rw [HXE.out], Lib.hid ⟨by rw [HXE.out]; exact O3.out, K1M.out.below B3.out HGB.out.2.2.1, I1.out.below B3.out HGB.out.2.2.2, B1.out.trans (B3.out.mono HGB.out.1), Nat.le_trans HGB.out.2.1 B3.out.size, hlt⟩⟩
          case measure =>
            rw [HM0.out, iterPos_it (I1.out.below B3.out HGB.out.2.2.2)]
            omega
        · -- 101
          rw [show ((101 : Nat) : Int) = 101 from rfl] at hnx
          obtain ⟨V, hV⟩ : ∃ V, V = bytC 101 m := ⟨_, rfl⟩
          obtain ⟨X, hX⟩ : ∃ X, X = F (pos + 1) := ⟨_, rfl⟩
          have HX := Lib.hid (show X = P ++ V by rw [hX, HFS.out pos, HC.out, HPE.out, hV])
          have HXE := Lib.hid hX.symm
          have hVl : V.length ≤ 1000 := by rw [hV]; exact HVL.out 101
          have m8 := K1M.out.cell 8
          have m9 := K1M.out.cell 9
          simp only [mvC, List.getElem?_toArray, List.getElem?_cons_zero, List.getElem?_cons_succ] at m8 m9
          have CN : Calls Tryd.prog 29 #[.slice (some ⟨w1.heap.size, 0, none⟩) 2 2] (w1.alloc (.cells #[.int .u64 m.eg, .int .u64 m.eo] 22)) fun r w' => ∃ A' c', r = .returned (.slice A' V.length c') ∧ Own w' (w1.alloc (.cells #[.int .u64 m.eg, .int .u64 m.eo] 22)).heap.size A' c' V ∧ Below (w1.alloc (.cells #[.int .u64 m.eg, .int .u64 m.eo] 22)).heap.size (w1.alloc (.cells #[.int .u64 m.eg, .int .u64 m.eo] 22)) w' := by
            rw [hV]
            exact refNums_any (some ⟨w1.heap.size, 0, none⟩) 2 [m.eg, m.eo] _ (OwnV.reads (lit2W w1 m.eg m.eo)) (Nat.le_of_ble_eq_true rfl) (by intro x hx; simp at hx; rcases hx with rfl | rfl <;> first | exact HIN.out.eg | exact HIN.out.eo)
          have CN2 := Lib.hid CN
          clear hV hX CN
          go_wp2_with fail
          refine CN2.out.mono ?_
          rintro e w2 ⟨A2, c2, rfl, o2, b2⟩
          have bal := ((Below.refl w1.heap.size w1).alloc (Nat.le_refl _) (.cells #[.int .u64 m.eg, .int .u64 m.eo] 22)).trans (b2.mono (by simp))
          have RV := Lib.hid (Rd.of_own o2)
          have P2 := Lib.hid (Own.below P1.out bal)
          have B2 := Lib.hid (bal.mono HGB.out.2.1)
          clear o2 b2 bal CN2
          go_wp2_with (at_builtin
                       go_must (refine wpList_appW rfl (.tmp 70) (.tmp 78) rfl B0 (l := P) (news := V) X HX.out rfl rfl P2.out RV.out (by omega) (Nat.le_trans HGB.out.2.1 B2.out.size) ?_)
                       intro A3 c3 w3 o3 g3 b3
                       have O3 := Lib.hid o3
                       have B3 := Lib.hid (B2.out.trans b3)
                       clear o3 g3 b3)
          go_roundw
          case rel => exact ⟨pos + 1, A3, c3, by rw [HXE.out], Lib.hid ⟨by rw [HXE.out]; exact O3.out, K1M.out.below B3.out HGB.out.2.2.1, I1.out.below B3.out HGB.out.2.2.2, B1.out.trans (B3.out.mono HGB.out.1), Nat.le_trans HGB.out.2.1 B3.out.size, hlt⟩⟩
          case measure =>
            rw [HM0.out, iterPos_it (I1.out.below B3.out HGB.out.2.2.2)]
            omega
        · -- 103
          rw [show ((103 : Nat) : Int) = 103 from rfl] at hnx
          obtain ⟨V, hV⟩ : ∃ V, V = bytC 103 m := ⟨_, rfl⟩
          obtain ⟨X, hX⟩ : ∃ X, X = F (pos + 1) := ⟨_, rfl⟩
          have HX := Lib.hid (show X = P ++ V by rw [hX, HFS.out pos, HC.out, HPE.out, hV])
          have HXE := Lib.hid hX.symm
          have hVl : V.length ≤ 1000 := by rw [hV]; exact HVL.out 103
          have m8 := K1M.out.cell 8
          simp only [mvC, List.getElem?_toArray, List.getElem?_cons_zero, List.getElem?_cons_succ] at m8
          have CN : Calls Tryd.prog 29 #[.slice (some ⟨w1.heap.size, 0, none⟩) 1 1] (w1.alloc (.cells #[.int .u64 m.eg] 22)) fun r w' => ∃ A' c', r = .returned (.slice A' V.length c') ∧ Own w' (w1.alloc (.cells #[.int .u64 m.eg] 22)).heap.size A' c' V ∧ Below (w1.alloc (.cells #[.int .u64 m.eg] 22)).heap.size (w1.alloc (.cells #[.int .u64 m.eg] 22)) w' := by
            rw [hV]
            exact refNums_any (some ⟨w1.heap.size, 0, none⟩) 1 [m.eg] _ (OwnV.reads (lit1W w1 m.eg)) (Nat.le_of_ble_eq_true rfl) (by intro x hx; simp at hx; subst hx <;> first | exact HIN.out.eg | exact HIN.out.eg)
          have CN2 := Lib.hid CN
          clear hV hX CN
          go_wp2_with fail
          refine CN2.out.mono ?_
          rintro e w2 ⟨A2, c2, rfl, o2, b2⟩
          have bal := ((Below.refl w1.heap.size w1).alloc (Nat.le_refl _) (.cells #[.int .u64 m.eg] 22)).trans (b2.mono (by simp))
          have RV := Lib.hid (Rd.of_own o2)
          have P2 := Lib.hid (Own.below P1.out bal)
          have B2 := Lib.hid (bal.mono HGB.out.2.1)
          clear o2 b2 bal CN2
          go_wp2_with (at_builtin
                       go_must (refine wpList_appW rfl (.tmp 82) (.tmp 87) rfl B0 (l := P) (news := V) X HX.out rfl rfl P2.out RV.out (by omega) (Nat.le_trans HGB.out.2.1 B2.out.size) ?_)
                       intro A3 c3 w3 o3 g3 b3
                       have O3 := Lib.hid o3
                       have B3 := Lib.hid (B2.out.trans b3)
                       clear o3 g3 b3)
          go_roundw
          case rel => exact ⟨pos + 1, A3, c3, by rw [HXE.out], Lib.hid ⟨by rw [HXE.out]; exact O3.out, K1M.out.below B3.out HGB.out.2.2.1, I1.out.below B3.out HGB.out.2.2.2, B1.out.trans (B3.out.mono HGB.out.1), Nat.le_trans HGB.out.2.1 B3.out.size, hlt⟩⟩
          case measure =>
            rw [HM0.out, iterPos_it (I1.out.below B3.out HGB.out.2.2.2)]
            omega
        · -- 98
          rw [show ((98 : Nat) : Int) = 98 from rfl] at hnx
          obtain ⟨V, hV⟩ : ∃ V, V = bytC 98 m := ⟨_, rfl⟩
          obtain ⟨X, hX⟩ : ∃ X, X = F (pos + 1) := ⟨_, rfl⟩
          have HX := Lib.hid (show X = P ++ V by rw [hX, HFS.out pos, HC.out, HPE.out, hV])
          have HXE := Lib.hid hX.symm
          have hVl : V.length ≤ 1000 := by rw [hV]; exact HVL.out 98
          have m10 := K1M.out.cell 10
          simp only [mvC, List.getElem?_toArray, List.getElem?_cons_zero, List.getElem?_cons_succ] at m10
          cases hb : m.some_ with
          | false =>
            rw [hb] at m10
            have bal := (Below.refl w1.heap.size w1).alloc (Nat.le_refl _) (.cells #[.int .u8 0] 5)
            have RV := Lib.hid (Rd.of_own (own_litW w1 0 (Nat.le_refl _)))
            have P2 := Lib.hid (Own.below P1.out bal)
            have B2 := Lib.hid (bal.mono HGB.out.2.1)
            have HV := Lib.hid (show V = [0] by rw [hV]; show [bitI m.some_] = _; rw [hb]; rfl)
            have HX1 := Lib.hid (show X = P ++ [0] by rw [HX.out, HV.out])
            clear hV hX bal hb
            go_wp2_with (at_builtin
                         go_must (refine wpList_appW rfl (.tmp 95) (.tmp 97) rfl B0 (l := P) (news := [0]) X HX1.out rfl rfl P2.out RV.out (by simp; omega) (Nat.le_trans HGB.out.2.1 B2.out.size) ?_)
                         intro A3 c3 w3 o3 g3 b3
                         have O3 := Lib.hid o3
                         have B3 := Lib.hid (B2.out.trans b3)
                         clear o3 g3 b3)
            go_roundw
            case rel => exact ⟨pos + 1, A3, c3, by rw [HXE.out], Lib.hid ⟨by rw [HXE.out]; exact O3.out, K1M.out.below B3.out HGB.out.2.2.1, I1.out.below B3.out HGB.out.2.2.2, B1.out.trans (B3.out.mono HGB.out.1), Nat.le_trans HGB.out.2.1 B3.out.size, hlt⟩⟩
            case measure =>
              rw [HM0.out, iterPos_it (I1.out.below B3.out HGB.out.2.2.2)]
              omega
          | true =>
            rw [hb] at m10
            have bal := (Below.refl w1.heap.size w1).alloc (Nat.le_refl _) (.cells #[.int .u8 1] 5)
            have RV := Lib.hid (Rd.of_own (own_litW w1 1 (Nat.le_refl _)))
            have P2 := Lib.hid (Own.below P1.out bal)
            have B2 := Lib.hid (bal.mono HGB.out.2.1)
            have HV := Lib.hid (show V = [1] by rw [hV]; show [bitI m.some_] = _; rw [hb]; rfl)
            have HX1 := Lib.hid (show X = P ++ [1] by rw [HX.out, HV.out])
            clear hV hX bal hb
            go_wp2_with (at_builtin
                         go_must (refine wpList_appW rfl (.tmp 95) (.tmp 97) rfl B0 (l := P) (news := [1]) X HX1.out rfl rfl P2.out RV.out (by simp; omega) (Nat.le_trans HGB.out.2.1 B2.out.size) ?_)
                         intro A3 c3 w3 o3 g3 b3
                         have O3 := Lib.hid o3
                         have B3 := Lib.hid (B2.out.trans b3)
                         clear o3 g3 b3)
            go_roundw
            case rel => exact ⟨pos + 1, A3, c3, by rw [HXE.out], Lib.hid ⟨by rw [HXE.out]; exact O3.out, K1M.out.below B3.out HGB.out.2.2.1, I1.out.below B3.out HGB.out.2.2.2, B1.out.trans (B3.out.mono HGB.out.1), Nat.le_trans HGB.out.2.1 B3.out.size, hlt⟩⟩
            case measure =>
              rw [HM0.out, iterPos_it (I1.out.below B3.out HGB.out.2.2.2)]
              omega
        · -- 99
          rw [show ((99 : Nat) : Int) = 99 from rfl] at hnx
          obtain ⟨V, hV⟩ : ∃ V, V = bytC 99 m := ⟨_, rfl⟩
          obtain ⟨X, hX⟩ : ∃ X, X = F (pos + 1) := ⟨_, rfl⟩
          have HX := Lib.hid (show X = P ++ V by rw [hX, HFS.out pos, HC.out, HPE.out, hV])
          have HXE := Lib.hid hX.symm
          have hVl : V.length ≤ 1000 := by rw [hV]; exact HVL.out 99
          have m11 := K1M.out.cell 11
          simp only [mvC, List.getElem?_toArray, List.getElem?_cons_zero, List.getElem?_cons_succ] at m11
          have CN : Calls Tryd.prog 29 #[.slice (some ⟨w1.heap.size, 0, none⟩) 1 1] (w1.alloc (.cells #[.int .u64 m.code] 22)) fun r w' => ∃ A' c', r = .returned (.slice A' V.length c') ∧ Own w' (w1.alloc (.cells #[.int .u64 m.code] 22)).heap.size A' c' V ∧ Below (w1.alloc (.cells #[.int .u64 m.code] 22)).heap.size (w1.alloc (.cells #[.int .u64 m.code] 22)) w' := by
            rw [hV]
            exact refNums_any (some ⟨w1.heap.size, 0, none⟩) 1 [m.code] _ (OwnV.reads (lit1W w1 m.code)) (Nat.le_of_ble_eq_true rfl) (by intro x hx; simp at hx; subst hx <;> first | exact HIN.out.code | exact HIN.out.code)
          have CN2 := Lib.hid CN
          clear hV hX CN
          go_wp2_with fail
          refine CN2.out.mono ?_
          rintro e w2 ⟨A2, c2, rfl, o2, b2⟩
          have bal := ((Below.refl w1.heap.size w1).alloc (Nat.le_refl _) (.cells #[.int .u64 m.code] 22)).trans (b2.mono (by simp))
          have RV := Lib.hid (Rd.of_own o2)
          have P2 := Lib.hid (Own.below P1.out bal)
          have B2 := Lib.hid (bal.mono HGB.out.2.1)
          clear o2 b2 bal CN2
          go_wp2_with (at_builtin
                       go_must (refine wpList_appW rfl (.tmp 101) (.tmp 105) rfl B0 (l := P) (news := V) X HX.out rfl rfl P2.out RV.out (by omega) (Nat.le_trans HGB.out.2.1 B2.out.size) ?_)
                       intro A3 c3 w3 o3 g3 b3
                       have O3 := Lib.hid o3
                       have B3 := Lib.hid (B2.out.trans b3)
                       clear o3 g3 b3)
          go_roundw
          case rel => exact ⟨pos + 1, A3, c3, by rw [HXE.out], Lib.hid ⟨by rw [HXE.out]; exact O3.out, K1M.out.below B3.out HGB.out.2.2.1, I1.out.below B3.out HGB.out.2.2.2, B1.out.trans (B3.out.mono HGB.out.1), Nat.le_trans HGB.out.2.1 B3.out.size, hlt⟩⟩
          case measure =>
            rw [HM0.out, iterPos_it (I1.out.below B3.out HGB.out.2.2.2)]
            omega
        · -- 114
          rw [show ((114 : Nat) : Int) = 114 from rfl] at hnx
          obtain ⟨V, hV⟩ : ∃ V, V = bytC 114 m := ⟨_, rfl⟩
          obtain ⟨X, hX⟩ : ∃ X, X = F (pos + 1) := ⟨_, rfl⟩
          have HX := Lib.hid (show X = P ++ V by rw [hX, HFS.out pos, HC.out, HPE.out, hV])
          have HXE := Lib.hid hX.symm
          have hVl : V.length ≤ 1000 := by rw [hV]; exact HVL.out 114
          have m12 := K1M.out.cell 12
          simp only [mvC, List.getElem?_toArray, List.getElem?_cons_zero, List.getElem?_cons_succ] at m12
          have CN : Calls Tryd.prog 30 #[.slice rA m.reason.length rc] w1 fun r w' => ∃ A' c', r = .returned (.slice A' V.length c') ∧ Own w' w1.heap.size A' c' V ∧ Below w1.heap.size w1 w' := by
            rw [hV]
            exact refTextW rA rc m.reason w1 (Rd.below HRD.out.2.1 B1.out) (by omega)
          have CN2 := Lib.hid CN
          clear hV hX CN
          go_wp2_with fail
          refine CN2.out.mono ?_
          rintro e w2 ⟨A2, c2, rfl, o2, bal⟩
          have RV := Lib.hid (Rd.of_own o2)
          have P2 := Lib.hid (Own.below P1.out bal)
          have B2 := Lib.hid (bal.mono HGB.out.2.1)
          clear o2 bal CN2
          go_wp2_with (at_builtin
                       go_must (refine wpList_appW rfl (.tmp 109) (.tmp 112) rfl B0 (l := P) (news := V) X HX.out rfl rfl P2.out RV.out (by omega) (Nat.le_trans HGB.out.2.1 B2.out.size) ?_)
                       intro A3 c3 w3 o3 g3 b3
                       have O3 := Lib.hid o3
                       have B3 := Lib.hid (B2.out.trans b3)
                       clear o3 g3 b3)
          go_roundw
          case rel => exact ⟨pos + 1, A3, c3, by rw [HXE.out], Lib.hid ⟨by rw [HXE.out]; exact O3.out, K1M.out.below B3.out HGB.out.2.2.1, I1.out.below B3.out HGB.out.2.2.2, B1.out.trans (B3.out.mono HGB.out.1), Nat.le_trans HGB.out.2.1 B3.out.size, hlt⟩⟩
          case measure =>
            rw [HM0.out, iterPos_it (I1.out.below B3.out HGB.out.2.2.2)]
            omega
        · -- 110
          rw [show ((110 : Nat) : Int) = 110 from rfl] at hnx
          obtain ⟨V, hV⟩ : ∃ V, V = bytC 110 m := ⟨_, rfl⟩
          obtain ⟨X, hX⟩ : ∃ X, X = F (pos + 1) := ⟨_, rfl⟩
          have HX := Lib.hid (show X = P ++ V by rw [hX, HFS.out pos, HC.out, HPE.out, hV])
          have HXE := Lib.hid hX.symm
          have hVl : V.length ≤ 1000 := by rw [hV]; exact HVL.out 110
          have m13 := K1M.out.cell 13
          simp only [mvC, List.getElem?_toArray, List.getElem?_cons_zero, List.getElem?_cons_succ] at m13
          have CN : Calls Tryd.prog 29 #[.slice (some ⟨w1.heap.size, 0, none⟩) 1 1] (w1.alloc (.cells #[.int .u64 m.n] 22)) fun r w' => ∃ A' c', r = .returned (.slice A' V.length c') ∧ Own w' (w1.alloc (.cells #[.int .u64 m.n] 22)).heap.size A' c' V ∧ Below (w1.alloc (.cells #[.int .u64 m.n] 22)).heap.size (w1.alloc (.cells #[.int .u64 m.n] 22)) w' := by
            rw [hV]
            exact refNums_any (some ⟨w1.heap.size, 0, none⟩) 1 [m.n] _ (OwnV.reads (lit1W w1 m.n)) (Nat.le_of_ble_eq_true rfl) (by intro x hx; simp at hx; subst hx <;> first | exact HIN.out.n | exact HIN.out.n)
          have CN2 := Lib.hid CN
          clear hV hX CN
          go_wp2_with fail
          refine CN2.out.mono ?_
          rintro e w2 ⟨A2, c2, rfl, o2, b2⟩
          have bal := ((Below.refl w1.heap.size w1).alloc (Nat.le_refl _) (.cells #[.int .u64 m.n] 22)).trans (b2.mono (by simp))
          have RV := Lib.hid (Rd.of_own o2)
          have P2 := Lib.hid (Own.below P1.out bal)
          have B2 := Lib.hid (bal.mono HGB.out.2.1)
          clear o2 b2 bal CN2
          go_wp2_with (at_builtin
                       go_must (refine wpList_appW rfl (.tmp 116) (.tmp 120) rfl B0 (l := P) (news := V) X HX.out rfl rfl P2.out RV.out (by omega) (Nat.le_trans HGB.out.2.1 B2.out.size) ?_)
                       intro A3 c3 w3 o3 g3 b3
                       have O3 := Lib.hid o3
                       have B3 := Lib.hid (B2.out.trans b3)
                       clear o3 g3 b3)
          go_roundw
          case rel => exact ⟨pos + 1, A3, c3, by rw [HXE.out], Lib.hid ⟨by rw [HXE.out]; exact O3.out, K1M.out.below B3.out HGB.out.2.2.1, I1.out.below B3.out HGB.out.2.2.2, B1.out.trans (B3.out.mono HGB.out.1), Nat.le_trans HGB.out.2.1 B3.out.size, hlt⟩⟩
          case measure =>
            rw [HM0.out, iterPos_it (I1.out.below B3.out HGB.out.2.2.2)]
            omega
        · -- 118
          rw [show ((118 : Nat) : Int) = 118 from rfl] at hnx
          obtain ⟨V, hV⟩ : ∃ V, V = bytC 118 m := ⟨_, rfl⟩
          obtain ⟨X, hX⟩ : ∃ X, X = F (pos + 1) := ⟨_, rfl⟩
          have HX := Lib.hid (show X = P ++ V by rw [hX, HFS.out pos, HC.out, HPE.out, hV])
          have HXE := Lib.hid hX.symm
          have hVl : V.length ≤ 1000 := by rw [hV]; exact HVL.out 118
          have m14 := K1M.out.cell 14
          simp only [mvC, List.getElem?_toArray, List.getElem?_cons_zero, List.getElem?_cons_succ] at m14
          have CN : Calls Tryd.prog 29 #[.slice (some ⟨w1.heap.size, 0, none⟩) 1 1] (w1.alloc (.cells #[.int .u64 m.ver] 22)) fun r w' => ∃ A' c', r = .returned (.slice A' V.length c') ∧ Own w' (w1.alloc (.cells #[.int .u64 m.ver] 22)).heap.size A' c' V ∧ Below (w1.alloc (.cells #[.int .u64 m.ver] 22)).heap.size (w1.alloc (.cells #[.int .u64 m.ver] 22)) w' := by
            rw [hV]
            exact refNums_any (some ⟨w1.heap.size, 0, none⟩) 1 [m.ver] _ (OwnV.reads (lit1W w1 m.ver)) (Nat.le_of_ble_eq_true rfl) (by intro x hx; simp at hx; subst hx <;> first | exact HIN.out.ver | exact HIN.out.ver)
          have CN2 := Lib.hid CN
          clear hV hX CN
          go_wp2_with fail
          refine CN2.out.mono ?_
          rintro e w2 ⟨A2, c2, rfl, o2, b2⟩
          have bal := ((Below.refl w1.heap.size w1).alloc (Nat.le_refl _) (.cells #[.int .u64 m.ver] 22)).trans (b2.mono (by simp))
          have RV := Lib.hid (Rd.of_own o2)
          have P2 := Lib.hid (Own.below P1.out bal)
          have B2 := Lib.hid (bal.mono HGB.out.2.1)
          clear o2 b2 bal CN2
          go_wp2_with (at_builtin
                       go_must (refine wpList_appW rfl (.tmp 124) (.tmp 128) rfl B0 (l := P) (news := V) X HX.out rfl rfl P2.out RV.out (by omega) (Nat.le_trans HGB.out.2.1 B2.out.size) ?_)
                       intro A3 c3 w3 o3 g3 b3
                       have O3 := Lib.hid o3
                       have B3 := Lib.hid (B2.out.trans b3)
                       clear o3 g3 b3)
          go_roundw
          case rel => exact ⟨pos + 1, A3, c3, by rw [HXE.out], Lib.hid ⟨by rw [HXE.out]; exact O3.out, K1M.out.below B3.out HGB.out.2.2.1, I1.out.below B3.out HGB.out.2.2.2, B1.out.trans (B3.out.mono HGB.out.1), Nat.le_trans HGB.out.2.1 B3.out.size, hlt⟩⟩
          case measure =>
            rw [HM0.out, iterPos_it (I1.out.below B3.out HGB.out.2.2.2)]
            omega
        · -- 108
          rw [show ((108 : Nat) : Int) = 108 from rfl] at hnx
          obtain ⟨V, hV⟩ : ∃ V, V = bytC 108 m := ⟨_, rfl⟩
          obtain ⟨X, hX⟩ : ∃ X, X = F (pos + 1) := ⟨_, rfl⟩
          have HX := Lib.hid (show X = P ++ V by rw [hX, HFS.out pos, HC.out, HPE.out, hV])
          have HXE := Lib.hid hX.symm
          have hVl : V.length ≤ 1000 := by rw [hV]; exact HVL.out 108
          obtain ⟨V1, hV1⟩ : ∃ V1, V1 = vencs [(m.vers.length : Int)] := ⟨_, rfl⟩
          obtain ⟨V2, hV2⟩ : ∃ V2, V2 = vencs m.vers := ⟨_, rfl⟩
          obtain ⟨Y, hY⟩ : ∃ Y, Y = P ++ V1 := ⟨_, rfl⟩
          have HY := Lib.hid hY
          have HXY := Lib.hid (show X = Y ++ V2 by rw [HX.out, hY, List.append_assoc, hV1, hV2, hV]; rfl)
          have hV1l : V1.length ≤ 8 := by rw [hV1]; have := vencs_len (l := [(m.vers.length : Int)]) (by intro x hx; simp at hx; subst hx; omega); simpa using this
          have hV2l : V2.length ≤ 8 * m.vers.length := by rw [hV2]; exact vencs_len (fun x hx => HIN.out.vers x hx)
          have hYl : Y.length ≤ 20100 := by rw [hY, List.length_append]; omega
          have HN1 := Lib.hid (fun W' (hr : RdI .u64 W' (some ⟨w1.heap.size, 0, none⟩) [(m.vers.length : Int)]) => refNums_any (some ⟨w1.heap.size, 0, none⟩) 1 [(m.vers.length : Int)] W' hr (Nat.le_of_ble_eq_true rfl) (by intro x hx; simp at hx; subst hx; exact ⟨by omega, by omega⟩))
          have HN2 := Lib.hid (fun W' (hb : Below w.heap.size w W') => refNums_any vA vc m.vers W' (RdI.below HRD.out.2.2 hb) (by omega) (fun x hx => HIN.out.vers x hx))
          rw [← hV1] at HN1
          rw [← hV2] at HN2
          have hw64 : IntKind.u64.wrap (m.vers.length : Int) = (m.vers.length : Int) := by rw [IntKind.wrap_u64]; omega
          clear hV hX hV1 hV2 hY
          go_upto_region 38 with (fail)
          refine wp_region_held_drew (S := fun w' => Below B0 w1 w') (by kernel_rfl) (Below.refl B0 w1).drew (fun s0 => ?_)
          refine wpAnyH_take (i := 0) (oi := ⟨_, _, _, _, _, _⟩) (v := .slice A P.length c) rfl (by kernel_rfl) (by kernel_rfl) (by kernel_rfl) (fun _ _ _ h => h) (Or.inl ⟨by rfl, fun w' hS => by go_simp⟩) s0 ?_
          simp only [Act.put, List.setIfInBounds_toArray, List.set_cons_zero, List.set_cons_succ]
          refine wpAnyH_take (i := 1) (oi := ⟨_, _, _, _, _, _⟩) (v := .pointer (some ⟨w.heap.size, 15, none⟩)) rfl (by kernel_rfl) (by kernel_rfl) (by kernel_rfl) (fun _ _ _ h => h) (Or.inl ⟨by rfl, fun w' hS => by go_simp⟩) s0 ?_
          simp only [Act.put, List.setIfInBounds_toArray, List.set_cons_zero, List.set_cons_succ]
          refine wpAnyH_take (i := 2) (oi := ⟨_, _, _, _, _, _⟩) (v := .slice vA m.vers.length vc) rfl (by kernel_rfl) (by kernel_rfl) (by kernel_rfl) (fun _ _ _ h => h) (Or.inl ⟨by rfl, fun w' hS => by have c15 := (K1M.out.below hS HGB.out.2.2.1).cell 15; simp only [mvC, List.getElem?_toArray, List.getElem?_cons_zero, List.getElem?_cons_succ] at c15; go_simp⟩) s0 ?_
          simp only [Act.put, List.setIfInBounds_toArray, List.set_cons_zero, List.set_cons_succ]
          refine wpAnyH_take (i := 3) (oi := ⟨_, _, _, _, _, _⟩) (v := .int .i64 m.vers.length) rfl (by kernel_rfl) (by kernel_rfl) (by kernel_rfl) (fun _ _ _ h => h) (Or.inl ⟨by rfl, fun w' hS => by go_simp⟩) s0 ?_
          simp only [Act.put, List.setIfInBounds_toArray, List.set_cons_zero, List.set_cons_succ]
          refine wpAnyH_take (i := 4) (oi := ⟨_, _, _, _, _, _⟩) (v := .int .u64 m.vers.length) rfl (by kernel_rfl) (by kernel_rfl) (by kernel_rfl) (fun _ _ _ h => h) (Or.inl ⟨by rfl, fun w' hS => by go_simp⟩) s0 ?_
          simp only [Act.put, List.setIfInBounds_toArray, List.set_cons_zero, List.set_cons_succ]
          refine wpAnyH_take (i := 8) (oi := ⟨_, _, _, _, _, _⟩) (v := .pointer (some ⟨w.heap.size, 15, none⟩)) rfl (by kernel_rfl) (by kernel_rfl) (by kernel_rfl) (fun _ _ _ h => h) (Or.inl ⟨by rfl, fun w' hS => by go_simp⟩) s0 ?_
          simp only [Act.put, List.setIfInBounds_toArray, List.set_cons_zero, List.set_cons_succ]
          refine wpAnyH_take (i := 9) (oi := ⟨_, _, _, _, _, _⟩) (v := .slice vA m.vers.length vc) rfl (by kernel_rfl) (by kernel_rfl) (by kernel_rfl) (fun _ _ _ h => h) (Or.inl ⟨by rfl, fun w' hS => by have c15 := (K1M.out.below hS HGB.out.2.2.1).cell 15; simp only [mvC, List.getElem?_toArray, List.getElem?_cons_zero, List.getElem?_cons_succ] at c15; go_simp⟩) s0 ?_
          simp only [Act.put, List.setIfInBounds_toArray, List.set_cons_zero, List.set_cons_succ]
          refine wpAnyH_ready (rs := [5]) (by kernel_rfl) (by simp) ?_
          refine AllReadyH.cons rfl (fun K hK => ?_) AllReadyH.nil
          go_simp
          have b5 : Below w1.heap.size w1 (w1.alloc (.cells #[.int .u64 (m.vers.length : Int)] 22)).drew := ((Below.refl w1.heap.size w1).alloc (Nat.le_refl _) _).drew
          have r5 : RdI .u64 (w1.alloc (.cells #[.int .u64 (m.vers.length : Int)] 22)).drew (some ⟨w1.heap.size, 0, none⟩) [(m.vers.length : Int)] := (show RdI .u64 (w1.alloc (.cells #[.int .u64 (m.vers.length : Int)] 22)) (some ⟨w1.heap.size, 0, none⟩) [(m.vers.length : Int)] from OwnV.reads (lit1W w1 (m.vers.length : Int)))
          refine hK.out _ _ (b5.mono HGB.out.2.1) (fun s5 => ?_)
          clear hK K s0
          obtain ⟨w5, hw5⟩ : ∃ w5, w5 = (w1.alloc (.cells #[.int .u64 (m.vers.length : Int)] 22)).drew := ⟨_, rfl⟩
          rw [← hw5] at b5 r5 s5 ⊢
          have hz5 : w1.heap.size ≤ w5.heap.size := b5.size
          clear hw5
          refine wpAnyH_ready (rs := [6]) (by kernel_rfl) (by simp) ?_
          refine AllReadyH.cons rfl (fun K hK => ?_) AllReadyH.nil
          go_simp
          refine (HN1.out w5 r5).mono ?_
          rintro e w6 ⟨A6, c6, rfl, o6, b6⟩
          have b16 := b5.trans (b6.mono hz5)
          refine hK.out _ _ (b16.mono HGB.out.2.1) (fun s6 => ?_)
          clear hK K s5 r5 b5
          have P6 := Lib.hid (Own.below P1.out b16)
          have R6 := Lib.hid (Rd.of_own o6)
          refine wpAnyH_ready (rs := [7]) (by kernel_rfl) (by simp) ?_
          refine AllReadyH.cons rfl (fun K hK => ?_) AllReadyH.nil
          refine step_appW rfl (.tmp 132) (.tmp 138) rfl B0 (l := P) (news := V1) Y HY.out rfl rfl P6.out R6.out (by omega) (Nat.le_trans HGB.out.2.1 b16.size) ?_
          intro A7 c7 w7 o7 b7
          have b17 := s6.trans b7
          refine hK.out _ _ b17 (fun s7 => ?_)
          clear hK K s6 o6 b6 b16 hz5 b7
          simp only [List.getElem_toArray, List.getElem_cons_succ, List.getElem_cons_zero, Act.put, List.setIfInBounds_toArray, List.set_cons_succ, List.set_cons_zero]
          have O7 := Lib.hid o7
          refine wpAnyH_ready (rs := [10]) (by kernel_rfl) (by simp) ?_
          refine AllReadyH.cons rfl (fun K hK => ?_) AllReadyH.nil
          go_simp
          refine (HN2.out w7 (B1.out.trans (s7.mono HGB.out.1))).mono ?_
          rintro e w8 ⟨A8, c8, rfl, o8, b8⟩
          have b18 := s7.trans (b8.mono (Nat.le_trans HGB.out.2.1 s7.size))
          refine hK.out _ _ b18 (fun s8 => ?_)
          have P8 := Lib.hid (Own.below O7.out b8)
          have R8 := Lib.hid (Rd.of_own o8)
          clear hK K s7 o7 b8 o8 b17 b18
          refine wpAnyH_ready (rs := [11]) (by kernel_rfl) (by simp) ?_
          refine AllReadyH.cons rfl (fun K hK => ?_) AllReadyH.nil
          refine step_appW rfl (.tmp 139) (.tmp 142) rfl B0 (l := Y) (news := V2) X HXY.out rfl rfl P8.out R8.out (by omega) (Nat.le_trans HGB.out.2.1 s8.size) ?_
          intro A3 c3 w3 o3 b3
          have b19 := s8.trans b3
          refine hK.out _ _ b19 (fun s9 => ?_)
          clear hK K s8 b3
          simp only [List.getElem_toArray, List.getElem_cons_succ, List.getElem_cons_zero, Act.put, List.setIfInBounds_toArray, List.set_cons_succ, List.set_cons_zero]
          have O3 := Lib.hid o3
          have B3 := Lib.hid b19
          refine wpAnyH_take (i := 12) (oi := ⟨_, _, _, _, _, _⟩) (v := .slice A3 X.length c3) rfl (by kernel_rfl) (by kernel_rfl) (by kernel_rfl) (fun _ _ _ h => h) (Or.inl ⟨by rfl, fun w' hS => by go_simp⟩) s9 ?_
          simp only [Act.put, List.setIfInBounds_toArray, List.set_cons_zero, List.set_cons_succ]
          refine wpAnyH_done (by kernel_rfl) ?_ _
          clear o3 b19 s9
          go_wp2_with fail
          go_roundw
          case rel => exact ⟨pos + 1, A3, c3, by rw [HXE.out], Lib.hid ⟨by rw [HXE.out]; exact O3.out, K1M.out.below B3.out HGB.out.2.2.1, I1.out.below B3.out HGB.out.2.2.2, B1.out.trans (B3.out.mono HGB.out.1), Nat.le_trans HGB.out.2.1 B3.out.size, hlt⟩⟩
          case measure =>
            rw [HM0.out, iterPos_it (I1.out.below B3.out HGB.out.2.2.2)]
            omega
        · -- 45
          rw [show ((45 : Nat) : Int) = 45 from rfl] at hnx
          obtain ⟨V, hV⟩ : ∃ V, V = bytC 45 m := ⟨_, rfl⟩
          obtain ⟨X, hX⟩ : ∃ X, X = F (pos + 1) := ⟨_, rfl⟩
          have HX := Lib.hid (show X = P ++ V by rw [hX, HFS.out pos, HC.out, HPE.out, hV])
          have HXE := Lib.hid hX.symm
          have hVl : V.length ≤ 1000 := by rw [hV]; exact HVL.out 45
          have HX1 := Lib.hid (show X = P by rw [HX.out, hV]; show P ++ [] = P; rw [List.append_nil])
          have B3 := Lib.hid (Below.refl B0 w1)
          have O3 := Lib.hid (show Own w1 B0 A c X by rw [HX1.out]; exact P1.out)
          have HXL := Lib.hid (show P.length = X.length by rw [HX1.out])
          clear hV hX
          go_wp2_with fail
          go_roundw
          case rel => exact ⟨pos + 1, A, c, by rw [HXE.out, HXL.out], Lib.hid ⟨by rw [HXE.out]; exact O3.out, K1M.out.below B3.out HGB.out.2.2.1, I1.out.below B3.out HGB.out.2.2.2, B1.out.trans (B3.out.mono HGB.out.1), Nat.le_trans HGB.out.2.1 B3.out.size, hlt⟩⟩
          case measure =>
            rw [HM0.out, iterPos_it (I1.out.below B3.out HGB.out.2.2.2)]
            omega
      · have hnx : ∀ ty, (Instr.next (.pointer (some ⟨wq.heap.size, 0, none⟩)) true ty).run Tryd.prog wr = .ok (.tuple #[.bool false]) wr := fun ty => run_next_it_end wr wq.heap.size s pos ty (by rw [← HGI.out]; exact HI.out.it) hlt
        have hps : pos = s.size := by have := HI.out.le; omega
        have km := HI.out.km
        have zm := km.lt
        have d0 := km.cell 0
        simp only [mvC, List.getElem?_toArray, List.getElem?_cons_zero, List.getElem?_cons_succ] at d0
        have BR := Lib.hid HI.out.bel
        have PR := Lib.hid HI.out.own
        have hPl := HFL.out pos (by omega)
        obtain ⟨P, hP⟩ : ∃ P, P = F pos := ⟨_, rfl⟩
        rw [← hP] at PR hPl ⊢
        have hPB : P = bytM m := by rw [hP, hps]; exact HFE.out
        obtain ⟨V, hV⟩ : ∃ V, V = vencs [m.kind] := ⟨_, rfl⟩
        have CN : Calls Tryd.prog 29 #[.slice (some ⟨wr.heap.size, 0, none⟩) 1 1] (wr.alloc (.cells #[.int .u64 m.kind] 22)) fun r w' => ∃ A' c', r = .returned (.slice A' V.length c') ∧ Own w' (wr.alloc (.cells #[.int .u64 m.kind] 22)).heap.size A' c' V ∧ Below (wr.alloc (.cells #[.int .u64 m.kind] 22)).heap.size (wr.alloc (.cells #[.int .u64 m.kind] 22)) w' := by
          rw [hV]
          exact refNums_any (some ⟨wr.heap.size, 0, none⟩) 1 [m.kind] _ (OwnV.reads (lit1W wr m.kind)) (Nat.le_of_ble_eq_true rfl) (by intro x hx; simp at hx; subst hx; exact HIN.out.kind)
        have hVl : V.length ≤ 8 := by rw [hV]; have := vencs_len (l := [m.kind]) (by intro x hx; simp at hx; subst hx; exact HIN.out.kind); simpa using this
        obtain ⟨Y, hY⟩ : ∃ Y, Y = V ++ [(P.length : Int) / 256, (P.length : Int) % 256] := ⟨_, rfl⟩
        obtain ⟨X, hX⟩ : ∃ X, X = refB m := ⟨_, rfl⟩
        have HXY := Lib.hid (show X = Y ++ P by rw [hX, hY, refB, ← hPB, hV, List.append_assoc])
        have hYl : Y.length ≤ 10 := by rw [hY, List.length_append]; simp; omega
        have HY := Lib.hid hY
        have HX := Lib.hid hX
        have CN2 := Lib.hid CN
        have q1 : IntKind.u8.wrap ((P.length : Int) / 256) = (P.length : Int) / 256 := by rw [IntKind.wrap_u8]; omega
        have q2 : IntKind.u8.wrap ((P.length : Int) % 256) = (P.length : Int) % 256 := by rw [IntKind.wrap_u8]; omega
        clear hps km HI hP hPB hV hY hX CN I0
        go_wp2_with fail
        refine CN2.out.mono ?_
        rintro e w2 ⟨A2, c2, rfl, o2, b2⟩
        have bal := ((Below.refl wr.heap.size wr).alloc (Nat.le_refl _) (.cells #[.int .u64 m.kind] 22)).trans (b2.mono (by simp))
        have O2 := Lib.hid (Own.base_leW o2 (show wr.heap.size ≤ _ by simp))
        have P2 := Lib.hid (Own.below PR.out bal)
        have B2 := Lib.hid bal
        have HLT := Lib.hid (show ∀ kk, (Value.slice A P.length c).ownBlock = some kk → kk < wr.heap.size from fun kk hk => OwnV.row_lt (show OwnV wr B0 5 1 A c P.length (U8 P) from PR.out) hk)
        clear o2 b2 bal CN2 PR
        have LT := Lib.hid ((Below.refl w2.heap.size w2).alloc (Nat.le_refl _) (.cells #[.int .u8 ((P.length : Int) / 256), .int .u8 ((P.length : Int) % 256)] 5))
        go_wp2_with (at_builtin
                     go_must (first
                       | (refine wpList_appW rfl (.tmp 147) (.tmp 156) rfl wr.heap.size (l := V) (news := [(P.length : Int) / 256, (P.length : Int) % 256]) Y HY.out rfl rfl (Own.below O2.out LT.out) (Rd.of_own (own_lit2E w2 ((P.length : Int) / 256) ((P.length : Int) % 256) (Nat.le_refl _))) (by simp; omega) (Nat.le_trans B2.out.size LT.out.size) ?_
                          intro A3 c3 w3 o3 g3 b3
                          have O3 := Lib.hid o3
                          have B3 := Lib.hid ((LT.out.mono B2.out.size).trans b3)
                          have P3 := Lib.hid (OwnV.apart (show OwnV _ B0 5 1 A c P.length (U8 P) from Own.below P2.out LT.out) g3 (fun kk hk e => by have h1 := HLT.out kk hk; have h2 := OwnV.row_ge (show OwnV _ wr.heap.size 5 1 A2 c2 V.length (U8 V) from O2.out) kk e; omega))
                          clear o3 g3 b3)
                       | (refine wpList_appW rfl (.tmp 157) (.tmp 158) rfl wr.heap.size (l := Y) (news := P) X HXY.out rfl rfl O3.out (Rd.of_own P3.out) (by omega) (Nat.le_trans B2.out.size B3.out.size) ?_
                          intro A4 c4 w4 o4 g4 b4
                          have O4 := Lib.hid o4
                          have B4 := Lib.hid (B2.out.trans (B3.out.trans b4))
                          clear o4 g4 b4)))
        rw [HP.out]
        exact ⟨fun _ => ⟨A4, c4, by rw [← HX.out]; rfl, by rw [← HX.out]; exact Own.base_leW O4.out BR.out.size⟩, fun h => (by rw [← HRT.out] at h; cases h), BR.out.trans (B4.out.mono BR.out.size)⟩
end Go.Proofs.YtfedofoadfipcaaDoor

/-
  Pure: the reference's Right is the program's valid; what it writes is what the program writes (made by mkWrdF.py).
-/
namespace Go.Proofs.YtfedofoadfipcaaDoor
open Go.RowKit
set_option linter.unusedVariables false
set_option linter.unusedSimpArgs false
set_option maxRecDepth 100000 in
set_option maxHeartbeats 3200000 in
/-- What a kind does not have is not there just if the bits say so. -/
theorem own_iff : ∀ own ∈ [223, 97, 769, 5, 1, 4, 0, 4096, 205, 5120, 6144], ∀ a b c d e f g h i j k l m : Bool, decide (bits .andNot .u16 (orW a (orW b (orW c (orW d (orW e (orW f (orW g (orW h (orW i (orW j (orW k (orW l (orW m 0 1) 2) 4) 8) 16) 32) 64) 128) 256) 512) 1024) 2048) 4096) own = 0) =
    ((hasB own 12 || !a) && (hasB own 11 || !b) && (hasB own 10 || !c) && (hasB own 9 || !d) && (hasB own 8 || !e) && (hasB own 7 || !f) && (hasB own 6 || !g) && (hasB own 5 || !h) && (hasB own 4 || !i) && (hasB own 3 || !j) && (hasB own 2 || !k) && (hasB own 1 || !l) && (hasB own 0 || !m)) := by decide +kernel
theorem set_iff (m : MV) (h : knW m.kind = true) : decide (bits .andNot .u16 (setW m) (foW m.kind) = 0) =
    ((hasB (foW m.kind) 12 || !(m.n != 0)) && (hasB (foW m.kind) 11 || !(m.ver != 0)) && (hasB (foW m.kind) 10 || !decide (0 < m.vers.length)) && (hasB (foW m.kind) 9 || !decide (0 < m.reason.length)) && (hasB (foW m.kind) 8 || !(m.code != 0)) && (hasB (foW m.kind) 7 || !decide (¬ (m.eg = 0 ∧ m.eo = 0))) && (hasB (foW m.kind) 6 || !decide (¬ (m.sg = 0 ∧ m.so = 0))) && (hasB (foW m.kind) 5 || !m.some_) && (hasB (foW m.kind) 4 || !(m.ord != 0)) && (hasB (foW m.kind) 3 || !(m.prio != 0)) && (hasB (foW m.kind) 2 || !decide (0 < m.name.length)) && (hasB (foW m.kind) 1 || !(m.alias_ != 0)) && (hasB (foW m.kind) 0 || !(m.id != 0))) :=
  own_iff (foW m.kind) (own_in h).1 _ _ _ _ _ _ _ _ _ _ _ _ _
theorem encW_nums (m : MV) : encW m = (numsM m).all (fun x => decide (x ≤ 4611686018427387903)) := by
  rw [Bool.eq_iff_iff]
  unfold encW numsM
  simp only [decide_eq_true_eq, List.all_eq_true, List.mem_append, List.mem_cons, List.not_mem_nil, or_false]
  constructor
  · intro h x hx
    apply h
    rcases hx with (h | h | h | h | h | h | h | h | h) | h <;> simp [h]
  · intro h x hx
    apply h
    rcases hx with (h | h | h | h | h | h | h | h | h) | h <;> simp [h]
theorem vencs_one (x : Int) : vencs [x] = venc x := by simp [vencs]
theorem vencs_two (x y : Int) : vencs [x, y] = venc x ++ venc y := by simp [vencs]
theorem nil_pos (l : List Int) : (!decide (0 < l.length)) = decide (l = []) := by cases l <;> simp
theorem only_3 (id al : Int) (name : List Int) (prio ord sg so eg eo : Int) (sm : Bool) (code : Int) (reason : List Int) (n ver : Int) (vers : List Int) : onlyM ⟨3, id, al, name, prio, ord, sg, so, eg, eo, sm, code, reason, n, ver, vers⟩ = ⟨3, id, al, name, prio, ord, sg, so, eg, 0, false, 0, [], 0, 0, []⟩ := rfl
theorem only_4 (id al : Int) (name : List Int) (prio ord sg so eg eo : Int) (sm : Bool) (code : Int) (reason : List Int) (n ver : Int) (vers : List Int) : onlyM ⟨4, id, al, name, prio, ord, sg, so, eg, eo, sm, code, reason, n, ver, vers⟩ = ⟨4, id, 0, [], 0, 0, sg, so, 0, 0, sm, 0, [], 0, 0, []⟩ := rfl
theorem only_5 (id al : Int) (name : List Int) (prio ord sg so eg eo : Int) (sm : Bool) (code : Int) (reason : List Int) (n ver : Int) (vers : List Int) : onlyM ⟨5, id, al, name, prio, ord, sg, so, eg, eo, sm, code, reason, n, ver, vers⟩ = ⟨5, id, 0, [], 0, 0, 0, 0, 0, 0, false, code, reason, 0, 0, []⟩ := rfl
theorem only_6 (id al : Int) (name : List Int) (prio ord sg so eg eo : Int) (sm : Bool) (code : Int) (reason : List Int) (n ver : Int) (vers : List Int) : onlyM ⟨6, id, al, name, prio, ord, sg, so, eg, eo, sm, code, reason, n, ver, vers⟩ = ⟨6, id, 0, name, 0, 0, 0, 0, 0, 0, false, 0, [], 0, 0, []⟩ := rfl
theorem only_7 (id al : Int) (name : List Int) (prio ord sg so eg eo : Int) (sm : Bool) (code : Int) (reason : List Int) (n ver : Int) (vers : List Int) : onlyM ⟨7, id, al, name, prio, ord, sg, so, eg, eo, sm, code, reason, n, ver, vers⟩ = ⟨7, id, 0, [], 0, 0, 0, 0, 0, 0, false, 0, [], 0, 0, []⟩ := rfl
theorem only_8 (id al : Int) (name : List Int) (prio ord sg so eg eo : Int) (sm : Bool) (code : Int) (reason : List Int) (n ver : Int) (vers : List Int) : onlyM ⟨8, id, al, name, prio, ord, sg, so, eg, eo, sm, code, reason, n, ver, vers⟩ = ⟨8, id, 0, [], 0, 0, 0, 0, 0, 0, false, code, reason, 0, 0, []⟩ := rfl
theorem only_9 (id al : Int) (name : List Int) (prio ord sg so eg eo : Int) (sm : Bool) (code : Int) (reason : List Int) (n ver : Int) (vers : List Int) : onlyM ⟨9, id, al, name, prio, ord, sg, so, eg, eo, sm, code, reason, n, ver, vers⟩ = ⟨9, 0, 0, name, 0, 0, 0, 0, 0, 0, false, 0, [], 0, 0, []⟩ := rfl
theorem only_10 (id al : Int) (name : List Int) (prio ord sg so eg eo : Int) (sm : Bool) (code : Int) (reason : List Int) (n ver : Int) (vers : List Int) : onlyM ⟨10, id, al, name, prio, ord, sg, so, eg, eo, sm, code, reason, n, ver, vers⟩ = ⟨10, id, 0, [], 0, 0, 0, 0, 0, 0, false, 0, [], 0, 0, []⟩ := rfl
theorem only_11 (id al : Int) (name : List Int) (prio ord sg so eg eo : Int) (sm : Bool) (code : Int) (reason : List Int) (n ver : Int) (vers : List Int) : onlyM ⟨11, id, al, name, prio, ord, sg, so, eg, eo, sm, code, reason, n, ver, vers⟩ = ⟨11, id, 0, [], 0, 0, 0, 0, 0, 0, false, code, reason, 0, 0, []⟩ := rfl
theorem only_16 (id al : Int) (name : List Int) (prio ord sg so eg eo : Int) (sm : Bool) (code : Int) (reason : List Int) (n ver : Int) (vers : List Int) : onlyM ⟨16, id, al, name, prio, ord, sg, so, eg, eo, sm, code, reason, n, ver, vers⟩ = ⟨16, 0, 0, [], 0, 0, 0, 0, 0, 0, false, 0, [], 0, 0, []⟩ := rfl
theorem only_21 (id al : Int) (name : List Int) (prio ord sg so eg eo : Int) (sm : Bool) (code : Int) (reason : List Int) (n ver : Int) (vers : List Int) : onlyM ⟨21, id, al, name, prio, ord, sg, so, eg, eo, sm, code, reason, n, ver, vers⟩ = ⟨21, 0, 0, [], 0, 0, 0, 0, 0, 0, false, 0, [], n, 0, []⟩ := rfl
theorem only_22 (id al : Int) (name : List Int) (prio ord sg so eg eo : Int) (sm : Bool) (code : Int) (reason : List Int) (n ver : Int) (vers : List Int) : onlyM ⟨22, id, al, name, prio, ord, sg, so, eg, eo, sm, code, reason, n, ver, vers⟩ = ⟨22, id, 0, name, prio, 0, sg, so, eg, eo, false, 0, [], 0, 0, []⟩ := rfl
theorem only_23 (id al : Int) (name : List Int) (prio ord sg so eg eo : Int) (sm : Bool) (code : Int) (reason : List Int) (n ver : Int) (vers : List Int) : onlyM ⟨23, id, al, name, prio, ord, sg, so, eg, eo, sm, code, reason, n, ver, vers⟩ = ⟨23, id, 0, [], 0, 0, 0, 0, 0, 0, false, 0, [], 0, 0, []⟩ := rfl
theorem only_24 (id al : Int) (name : List Int) (prio ord sg so eg eo : Int) (sm : Bool) (code : Int) (reason : List Int) (n ver : Int) (vers : List Int) : onlyM ⟨24, id, al, name, prio, ord, sg, so, eg, eo, sm, code, reason, n, ver, vers⟩ = ⟨24, id, 0, [], 0, 0, 0, 0, 0, 0, false, 0, [], 0, 0, []⟩ := rfl
theorem only_25 (id al : Int) (name : List Int) (prio ord sg so eg eo : Int) (sm : Bool) (code : Int) (reason : List Int) (n ver : Int) (vers : List Int) : onlyM ⟨25, id, al, name, prio, ord, sg, so, eg, eo, sm, code, reason, n, ver, vers⟩ = ⟨25, id, 0, [], 0, 0, 0, 0, 0, 0, false, code, reason, 0, 0, []⟩ := rfl
theorem only_32 (id al : Int) (name : List Int) (prio ord sg so eg eo : Int) (sm : Bool) (code : Int) (reason : List Int) (n ver : Int) (vers : List Int) : onlyM ⟨32, id, al, name, prio, ord, sg, so, eg, eo, sm, code, reason, n, ver, vers⟩ = ⟨32, 0, 0, [], 0, 0, 0, 0, 0, 0, false, 0, [], n, 0, vers⟩ := rfl
theorem only_33 (id al : Int) (name : List Int) (prio ord sg so eg eo : Int) (sm : Bool) (code : Int) (reason : List Int) (n ver : Int) (vers : List Int) : onlyM ⟨33, id, al, name, prio, ord, sg, so, eg, eo, sm, code, reason, n, ver, vers⟩ = ⟨33, 0, 0, [], 0, 0, 0, 0, 0, 0, false, 0, [], n, ver, []⟩ := rfl
end Go.Proofs.YtfedofoadfipcaaDoor

/-
  Pure: the reference's Right is the program's valid, and what both write is the same (made by mkWrdG.py).
-/
namespace Go.Proofs.YtfedofoadfipcaaDoor
open Go.RowKit
set_option linter.unusedVariables false
set_option linter.unusedSimpArgs false
theorem rv_3 (id al : Int) (name : List Int) (prio ord sg so eg eo : Int) (sm : Bool) (code : Int) (reason : List Int) (n ver : Int) (vers : List Int) : rightM ⟨3, id, al, name, prio, ord, sg, so, eg, eo, sm, code, reason, n, ver, vers⟩ = validB ⟨3, id, al, name, prio, ord, sg, so, eg, eo, sm, code, reason, n, ver, vers⟩ := by
  have hl : lettersOk (shapeW 3) ⟨3, id, al, name, prio, ord, sg, so, eg, eo, sm, code, reason, n, ver, vers⟩ = ((true) && ((true) && ((decide (1 ≤ name.length) && decide (name.length ≤ 32)) && ((true) && ((decide (ord = 1) || decide (ord = 2)) && ((true) && ((decide (eg = 0) || decide (sg < eg)) && true))))))) := rfl
  unfold rightM validB
  rw [only_3, encW_nums, set_iff ⟨3, id, al, name, prio, ord, sg, so, eg, eo, sm, code, reason, n, ver, vers⟩ (show knW 3 = true by decide)]
  simp only [hl, show foW 3 = 223 by decide, show hasB 223 0 = true by decide, show hasB 223 1 = true by decide, show hasB 223 2 = true by decide, show hasB 223 3 = true by decide, show hasB 223 4 = true by decide, show hasB 223 5 = false by decide, show hasB 223 6 = true by decide, show hasB 223 7 = true by decide, show hasB 223 8 = false by decide, show hasB 223 9 = false by decide, show hasB 223 10 = false by decide, show hasB 223 11 = false by decide, show hasB 223 12 = false by decide, Bool.true_or, Bool.false_or, Bool.true_and, Bool.and_true]
  rw [Bool.eq_iff_iff]
  simp only [Bool.and_eq_true, sameMB_iff, MV.mk.injEq, decide_eq_true_eq, Bool.not_eq_true', Bool.or_eq_true, bne_eq_false_iff_eq, decide_eq_false_iff_not, Classical.not_not]
  unfold fitB
  simp [clB, namB]
  try grind
theorem by_3 (id al : Int) (name : List Int) (prio ord sg so eg eo : Int) (sm : Bool) (code : Int) (reason : List Int) (n ver : Int) (vers : List Int) : bytM ⟨3, id, al, name, prio, ord, sg, so, eg, eo, sm, code, reason, n, ver, vers⟩ = encR (foW 3) ⟨3, id, al, name, prio, ord, sg, so, eg, eo, sm, code, reason, n, ver, vers⟩ 13 := by
  have h1 : bytM ⟨3, id, al, name, prio, ord, sg, so, eg, eo, sm, code, reason, n, ver, vers⟩ = ((((((([] ++ vencs [id]) ++ vencs [al]) ++ vtext name) ++ [prio]) ++ [ord]) ++ vencs [sg, so]) ++ vencs [eg]) := rfl
  rw [h1, show foW 3 = 223 by decide]
  simp only [encR, show hasB 223 0 = true by decide, show hasB 223 1 = true by decide, show hasB 223 2 = true by decide, show hasB 223 3 = true by decide, show hasB 223 4 = true by decide, show hasB 223 5 = false by decide, show hasB 223 6 = true by decide, show hasB 223 7 = true by decide, show hasB 223 8 = false by decide, show hasB 223 9 = false by decide, show hasB 223 10 = false by decide, show hasB 223 11 = false by decide, show hasB 223 12 = false by decide, if_true, Bool.false_eq_true, if_false, encF, vencs_one, vencs_two, List.nil_append, List.append_nil, List.append_assoc]
  try simp
theorem rv_4 (id al : Int) (name : List Int) (prio ord sg so eg eo : Int) (sm : Bool) (code : Int) (reason : List Int) (n ver : Int) (vers : List Int) : rightM ⟨4, id, al, name, prio, ord, sg, so, eg, eo, sm, code, reason, n, ver, vers⟩ = validB ⟨4, id, al, name, prio, ord, sg, so, eg, eo, sm, code, reason, n, ver, vers⟩ := by
  have hl : lettersOk (shapeW 4) ⟨4, id, al, name, prio, ord, sg, so, eg, eo, sm, code, reason, n, ver, vers⟩ = ((true) && ((sm || (decide (sg = 0) && decide (so = 0))) && ((true) && true))) := rfl
  unfold rightM validB
  rw [only_4, encW_nums, set_iff ⟨4, id, al, name, prio, ord, sg, so, eg, eo, sm, code, reason, n, ver, vers⟩ (show knW 4 = true by decide)]
  simp only [hl, show foW 4 = 97 by decide, show hasB 97 0 = true by decide, show hasB 97 1 = false by decide, show hasB 97 2 = false by decide, show hasB 97 3 = false by decide, show hasB 97 4 = false by decide, show hasB 97 5 = true by decide, show hasB 97 6 = true by decide, show hasB 97 7 = false by decide, show hasB 97 8 = false by decide, show hasB 97 9 = false by decide, show hasB 97 10 = false by decide, show hasB 97 11 = false by decide, show hasB 97 12 = false by decide, Bool.true_or, Bool.false_or, Bool.true_and, Bool.and_true]
  rw [Bool.eq_iff_iff]
  simp only [Bool.and_eq_true, sameMB_iff, MV.mk.injEq, decide_eq_true_eq, Bool.not_eq_true', Bool.or_eq_true, bne_eq_false_iff_eq, decide_eq_false_iff_not, Classical.not_not]
  unfold fitB
  simp [clB, namB]
  try grind
theorem by_4 (id al : Int) (name : List Int) (prio ord sg so eg eo : Int) (sm : Bool) (code : Int) (reason : List Int) (n ver : Int) (vers : List Int) : bytM ⟨4, id, al, name, prio, ord, sg, so, eg, eo, sm, code, reason, n, ver, vers⟩ = encR (foW 4) ⟨4, id, al, name, prio, ord, sg, so, eg, eo, sm, code, reason, n, ver, vers⟩ 13 := by
  have h1 : bytM ⟨4, id, al, name, prio, ord, sg, so, eg, eo, sm, code, reason, n, ver, vers⟩ = ((([] ++ vencs [id]) ++ [bitI sm]) ++ vencs [sg, so]) := rfl
  rw [h1, show foW 4 = 97 by decide]
  simp only [encR, show hasB 97 0 = true by decide, show hasB 97 1 = false by decide, show hasB 97 2 = false by decide, show hasB 97 3 = false by decide, show hasB 97 4 = false by decide, show hasB 97 5 = true by decide, show hasB 97 6 = true by decide, show hasB 97 7 = false by decide, show hasB 97 8 = false by decide, show hasB 97 9 = false by decide, show hasB 97 10 = false by decide, show hasB 97 11 = false by decide, show hasB 97 12 = false by decide, if_true, Bool.false_eq_true, if_false, encF, vencs_one, vencs_two, List.nil_append, List.append_nil, List.append_assoc]
  try simp
theorem rv_5 (id al : Int) (name : List Int) (prio ord sg so eg eo : Int) (sm : Bool) (code : Int) (reason : List Int) (n ver : Int) (vers : List Int) : rightM ⟨5, id, al, name, prio, ord, sg, so, eg, eo, sm, code, reason, n, ver, vers⟩ = validB ⟨5, id, al, name, prio, ord, sg, so, eg, eo, sm, code, reason, n, ver, vers⟩ := by
  have hl : lettersOk (shapeW 5) ⟨5, id, al, name, prio, ord, sg, so, eg, eo, sm, code, reason, n, ver, vers⟩ = ((true) && ((true) && ((true) && true))) := rfl
  unfold rightM validB
  rw [only_5, encW_nums, set_iff ⟨5, id, al, name, prio, ord, sg, so, eg, eo, sm, code, reason, n, ver, vers⟩ (show knW 5 = true by decide)]
  simp only [hl, show foW 5 = 769 by decide, show hasB 769 0 = true by decide, show hasB 769 1 = false by decide, show hasB 769 2 = false by decide, show hasB 769 3 = false by decide, show hasB 769 4 = false by decide, show hasB 769 5 = false by decide, show hasB 769 6 = false by decide, show hasB 769 7 = false by decide, show hasB 769 8 = true by decide, show hasB 769 9 = true by decide, show hasB 769 10 = false by decide, show hasB 769 11 = false by decide, show hasB 769 12 = false by decide, Bool.true_or, Bool.false_or, Bool.true_and, Bool.and_true]
  rw [Bool.eq_iff_iff]
  simp only [Bool.and_eq_true, sameMB_iff, MV.mk.injEq, decide_eq_true_eq, Bool.not_eq_true', Bool.or_eq_true, bne_eq_false_iff_eq, decide_eq_false_iff_not, Classical.not_not]
  unfold fitB
  simp [clB, namB]
  try grind
theorem by_5 (id al : Int) (name : List Int) (prio ord sg so eg eo : Int) (sm : Bool) (code : Int) (reason : List Int) (n ver : Int) (vers : List Int) : bytM ⟨5, id, al, name, prio, ord, sg, so, eg, eo, sm, code, reason, n, ver, vers⟩ = encR (foW 5) ⟨5, id, al, name, prio, ord, sg, so, eg, eo, sm, code, reason, n, ver, vers⟩ 13 := by
  have h1 : bytM ⟨5, id, al, name, prio, ord, sg, so, eg, eo, sm, code, reason, n, ver, vers⟩ = ((([] ++ vencs [id]) ++ vencs [code]) ++ vtext reason) := rfl
  rw [h1, show foW 5 = 769 by decide]
  simp only [encR, show hasB 769 0 = true by decide, show hasB 769 1 = false by decide, show hasB 769 2 = false by decide, show hasB 769 3 = false by decide, show hasB 769 4 = false by decide, show hasB 769 5 = false by decide, show hasB 769 6 = false by decide, show hasB 769 7 = false by decide, show hasB 769 8 = true by decide, show hasB 769 9 = true by decide, show hasB 769 10 = false by decide, show hasB 769 11 = false by decide, show hasB 769 12 = false by decide, if_true, Bool.false_eq_true, if_false, encF, vencs_one, vencs_two, List.nil_append, List.append_nil, List.append_assoc]
  try simp
theorem rv_6 (id al : Int) (name : List Int) (prio ord sg so eg eo : Int) (sm : Bool) (code : Int) (reason : List Int) (n ver : Int) (vers : List Int) : rightM ⟨6, id, al, name, prio, ord, sg, so, eg, eo, sm, code, reason, n, ver, vers⟩ = validB ⟨6, id, al, name, prio, ord, sg, so, eg, eo, sm, code, reason, n, ver, vers⟩ := by
  have hl : lettersOk (shapeW 6) ⟨6, id, al, name, prio, ord, sg, so, eg, eo, sm, code, reason, n, ver, vers⟩ = ((true) && ((decide (1 ≤ name.length) && decide (name.length ≤ 32)) && true)) := rfl
  unfold rightM validB
  rw [only_6, encW_nums, set_iff ⟨6, id, al, name, prio, ord, sg, so, eg, eo, sm, code, reason, n, ver, vers⟩ (show knW 6 = true by decide)]
  simp only [hl, show foW 6 = 5 by decide, show hasB 5 0 = true by decide, show hasB 5 1 = false by decide, show hasB 5 2 = true by decide, show hasB 5 3 = false by decide, show hasB 5 4 = false by decide, show hasB 5 5 = false by decide, show hasB 5 6 = false by decide, show hasB 5 7 = false by decide, show hasB 5 8 = false by decide, show hasB 5 9 = false by decide, show hasB 5 10 = false by decide, show hasB 5 11 = false by decide, show hasB 5 12 = false by decide, Bool.true_or, Bool.false_or, Bool.true_and, Bool.and_true]
  rw [Bool.eq_iff_iff]
  simp only [Bool.and_eq_true, sameMB_iff, MV.mk.injEq, decide_eq_true_eq, Bool.not_eq_true', Bool.or_eq_true, bne_eq_false_iff_eq, decide_eq_false_iff_not, Classical.not_not]
  unfold fitB
  simp [clB, namB]
  try grind
theorem by_6 (id al : Int) (name : List Int) (prio ord sg so eg eo : Int) (sm : Bool) (code : Int) (reason : List Int) (n ver : Int) (vers : List Int) : bytM ⟨6, id, al, name, prio, ord, sg, so, eg, eo, sm, code, reason, n, ver, vers⟩ = encR (foW 6) ⟨6, id, al, name, prio, ord, sg, so, eg, eo, sm, code, reason, n, ver, vers⟩ 13 := by
  have h1 : bytM ⟨6, id, al, name, prio, ord, sg, so, eg, eo, sm, code, reason, n, ver, vers⟩ = (([] ++ vencs [id]) ++ vtext name) := rfl
  rw [h1, show foW 6 = 5 by decide]
  simp only [encR, show hasB 5 0 = true by decide, show hasB 5 1 = false by decide, show hasB 5 2 = true by decide, show hasB 5 3 = false by decide, show hasB 5 4 = false by decide, show hasB 5 5 = false by decide, show hasB 5 6 = false by decide, show hasB 5 7 = false by decide, show hasB 5 8 = false by decide, show hasB 5 9 = false by decide, show hasB 5 10 = false by decide, show hasB 5 11 = false by decide, show hasB 5 12 = false by decide, if_true, Bool.false_eq_true, if_false, encF, vencs_one, vencs_two, List.nil_append, List.append_nil, List.append_assoc]
  try simp
theorem rv_7 (id al : Int) (name : List Int) (prio ord sg so eg eo : Int) (sm : Bool) (code : Int) (reason : List Int) (n ver : Int) (vers : List Int) : rightM ⟨7, id, al, name, prio, ord, sg, so, eg, eo, sm, code, reason, n, ver, vers⟩ = validB ⟨7, id, al, name, prio, ord, sg, so, eg, eo, sm, code, reason, n, ver, vers⟩ := by
  have hl : lettersOk (shapeW 7) ⟨7, id, al, name, prio, ord, sg, so, eg, eo, sm, code, reason, n, ver, vers⟩ = ((true) && true) := rfl
  unfold rightM validB
  rw [only_7, encW_nums, set_iff ⟨7, id, al, name, prio, ord, sg, so, eg, eo, sm, code, reason, n, ver, vers⟩ (show knW 7 = true by decide)]
  simp only [hl, show foW 7 = 1 by decide, show hasB 1 0 = true by decide, show hasB 1 1 = false by decide, show hasB 1 2 = false by decide, show hasB 1 3 = false by decide, show hasB 1 4 = false by decide, show hasB 1 5 = false by decide, show hasB 1 6 = false by decide, show hasB 1 7 = false by decide, show hasB 1 8 = false by decide, show hasB 1 9 = false by decide, show hasB 1 10 = false by decide, show hasB 1 11 = false by decide, show hasB 1 12 = false by decide, Bool.true_or, Bool.false_or, Bool.true_and, Bool.and_true]
  rw [Bool.eq_iff_iff]
  simp only [Bool.and_eq_true, sameMB_iff, MV.mk.injEq, decide_eq_true_eq, Bool.not_eq_true', Bool.or_eq_true, bne_eq_false_iff_eq, decide_eq_false_iff_not, Classical.not_not]
  unfold fitB
  simp [clB, namB]
  try grind
theorem by_7 (id al : Int) (name : List Int) (prio ord sg so eg eo : Int) (sm : Bool) (code : Int) (reason : List Int) (n ver : Int) (vers : List Int) : bytM ⟨7, id, al, name, prio, ord, sg, so, eg, eo, sm, code, reason, n, ver, vers⟩ = encR (foW 7) ⟨7, id, al, name, prio, ord, sg, so, eg, eo, sm, code, reason, n, ver, vers⟩ 13 := by
  have h1 : bytM ⟨7, id, al, name, prio, ord, sg, so, eg, eo, sm, code, reason, n, ver, vers⟩ = ([] ++ vencs [id]) := rfl
  rw [h1, show foW 7 = 1 by decide]
  simp only [encR, show hasB 1 0 = true by decide, show hasB 1 1 = false by decide, show hasB 1 2 = false by decide, show hasB 1 3 = false by decide, show hasB 1 4 = false by decide, show hasB 1 5 = false by decide, show hasB 1 6 = false by decide, show hasB 1 7 = false by decide, show hasB 1 8 = false by decide, show hasB 1 9 = false by decide, show hasB 1 10 = false by decide, show hasB 1 11 = false by decide, show hasB 1 12 = false by decide, if_true, Bool.false_eq_true, if_false, encF, vencs_one, vencs_two, List.nil_append, List.append_nil, List.append_assoc]
  try simp
theorem rv_8 (id al : Int) (name : List Int) (prio ord sg so eg eo : Int) (sm : Bool) (code : Int) (reason : List Int) (n ver : Int) (vers : List Int) : rightM ⟨8, id, al, name, prio, ord, sg, so, eg, eo, sm, code, reason, n, ver, vers⟩ = validB ⟨8, id, al, name, prio, ord, sg, so, eg, eo, sm, code, reason, n, ver, vers⟩ := by
  have hl : lettersOk (shapeW 8) ⟨8, id, al, name, prio, ord, sg, so, eg, eo, sm, code, reason, n, ver, vers⟩ = ((true) && ((true) && ((true) && true))) := rfl
  unfold rightM validB
  rw [only_8, encW_nums, set_iff ⟨8, id, al, name, prio, ord, sg, so, eg, eo, sm, code, reason, n, ver, vers⟩ (show knW 8 = true by decide)]
  simp only [hl, show foW 8 = 769 by decide, show hasB 769 0 = true by decide, show hasB 769 1 = false by decide, show hasB 769 2 = false by decide, show hasB 769 3 = false by decide, show hasB 769 4 = false by decide, show hasB 769 5 = false by decide, show hasB 769 6 = false by decide, show hasB 769 7 = false by decide, show hasB 769 8 = true by decide, show hasB 769 9 = true by decide, show hasB 769 10 = false by decide, show hasB 769 11 = false by decide, show hasB 769 12 = false by decide, Bool.true_or, Bool.false_or, Bool.true_and, Bool.and_true]
  rw [Bool.eq_iff_iff]
  simp only [Bool.and_eq_true, sameMB_iff, MV.mk.injEq, decide_eq_true_eq, Bool.not_eq_true', Bool.or_eq_true, bne_eq_false_iff_eq, decide_eq_false_iff_not, Classical.not_not]
  unfold fitB
  simp [clB, namB]
  try grind
theorem by_8 (id al : Int) (name : List Int) (prio ord sg so eg eo : Int) (sm : Bool) (code : Int) (reason : List Int) (n ver : Int) (vers : List Int) : bytM ⟨8, id, al, name, prio, ord, sg, so, eg, eo, sm, code, reason, n, ver, vers⟩ = encR (foW 8) ⟨8, id, al, name, prio, ord, sg, so, eg, eo, sm, code, reason, n, ver, vers⟩ 13 := by
  have h1 : bytM ⟨8, id, al, name, prio, ord, sg, so, eg, eo, sm, code, reason, n, ver, vers⟩ = ((([] ++ vencs [id]) ++ vencs [code]) ++ vtext reason) := rfl
  rw [h1, show foW 8 = 769 by decide]
  simp only [encR, show hasB 769 0 = true by decide, show hasB 769 1 = false by decide, show hasB 769 2 = false by decide, show hasB 769 3 = false by decide, show hasB 769 4 = false by decide, show hasB 769 5 = false by decide, show hasB 769 6 = false by decide, show hasB 769 7 = false by decide, show hasB 769 8 = true by decide, show hasB 769 9 = true by decide, show hasB 769 10 = false by decide, show hasB 769 11 = false by decide, show hasB 769 12 = false by decide, if_true, Bool.false_eq_true, if_false, encF, vencs_one, vencs_two, List.nil_append, List.append_nil, List.append_assoc]
  try simp
theorem rv_9 (id al : Int) (name : List Int) (prio ord sg so eg eo : Int) (sm : Bool) (code : Int) (reason : List Int) (n ver : Int) (vers : List Int) : rightM ⟨9, id, al, name, prio, ord, sg, so, eg, eo, sm, code, reason, n, ver, vers⟩ = validB ⟨9, id, al, name, prio, ord, sg, so, eg, eo, sm, code, reason, n, ver, vers⟩ := by
  have hl : lettersOk (shapeW 9) ⟨9, id, al, name, prio, ord, sg, so, eg, eo, sm, code, reason, n, ver, vers⟩ = ((decide (1 ≤ name.length) && decide (name.length ≤ 32)) && true) := rfl
  unfold rightM validB
  rw [only_9, encW_nums, set_iff ⟨9, id, al, name, prio, ord, sg, so, eg, eo, sm, code, reason, n, ver, vers⟩ (show knW 9 = true by decide)]
  simp only [hl, show foW 9 = 4 by decide, show hasB 4 0 = false by decide, show hasB 4 1 = false by decide, show hasB 4 2 = true by decide, show hasB 4 3 = false by decide, show hasB 4 4 = false by decide, show hasB 4 5 = false by decide, show hasB 4 6 = false by decide, show hasB 4 7 = false by decide, show hasB 4 8 = false by decide, show hasB 4 9 = false by decide, show hasB 4 10 = false by decide, show hasB 4 11 = false by decide, show hasB 4 12 = false by decide, Bool.true_or, Bool.false_or, Bool.true_and, Bool.and_true]
  rw [Bool.eq_iff_iff]
  simp only [Bool.and_eq_true, sameMB_iff, MV.mk.injEq, decide_eq_true_eq, Bool.not_eq_true', Bool.or_eq_true, bne_eq_false_iff_eq, decide_eq_false_iff_not, Classical.not_not]
  unfold fitB
  simp [clB, namB]
  try grind
theorem by_9 (id al : Int) (name : List Int) (prio ord sg so eg eo : Int) (sm : Bool) (code : Int) (reason : List Int) (n ver : Int) (vers : List Int) : bytM ⟨9, id, al, name, prio, ord, sg, so, eg, eo, sm, code, reason, n, ver, vers⟩ = encR (foW 9) ⟨9, id, al, name, prio, ord, sg, so, eg, eo, sm, code, reason, n, ver, vers⟩ 13 := by
  have h1 : bytM ⟨9, id, al, name, prio, ord, sg, so, eg, eo, sm, code, reason, n, ver, vers⟩ = ([] ++ vtext name) := rfl
  rw [h1, show foW 9 = 4 by decide]
  simp only [encR, show hasB 4 0 = false by decide, show hasB 4 1 = false by decide, show hasB 4 2 = true by decide, show hasB 4 3 = false by decide, show hasB 4 4 = false by decide, show hasB 4 5 = false by decide, show hasB 4 6 = false by decide, show hasB 4 7 = false by decide, show hasB 4 8 = false by decide, show hasB 4 9 = false by decide, show hasB 4 10 = false by decide, show hasB 4 11 = false by decide, show hasB 4 12 = false by decide, if_true, Bool.false_eq_true, if_false, encF, vencs_one, vencs_two, List.nil_append, List.append_nil, List.append_assoc]
  try simp
theorem rv_10 (id al : Int) (name : List Int) (prio ord sg so eg eo : Int) (sm : Bool) (code : Int) (reason : List Int) (n ver : Int) (vers : List Int) : rightM ⟨10, id, al, name, prio, ord, sg, so, eg, eo, sm, code, reason, n, ver, vers⟩ = validB ⟨10, id, al, name, prio, ord, sg, so, eg, eo, sm, code, reason, n, ver, vers⟩ := by
  have hl : lettersOk (shapeW 10) ⟨10, id, al, name, prio, ord, sg, so, eg, eo, sm, code, reason, n, ver, vers⟩ = ((true) && true) := rfl
  unfold rightM validB
  rw [only_10, encW_nums, set_iff ⟨10, id, al, name, prio, ord, sg, so, eg, eo, sm, code, reason, n, ver, vers⟩ (show knW 10 = true by decide)]
  simp only [hl, show foW 10 = 1 by decide, show hasB 1 0 = true by decide, show hasB 1 1 = false by decide, show hasB 1 2 = false by decide, show hasB 1 3 = false by decide, show hasB 1 4 = false by decide, show hasB 1 5 = false by decide, show hasB 1 6 = false by decide, show hasB 1 7 = false by decide, show hasB 1 8 = false by decide, show hasB 1 9 = false by decide, show hasB 1 10 = false by decide, show hasB 1 11 = false by decide, show hasB 1 12 = false by decide, Bool.true_or, Bool.false_or, Bool.true_and, Bool.and_true]
  rw [Bool.eq_iff_iff]
  simp only [Bool.and_eq_true, sameMB_iff, MV.mk.injEq, decide_eq_true_eq, Bool.not_eq_true', Bool.or_eq_true, bne_eq_false_iff_eq, decide_eq_false_iff_not, Classical.not_not]
  unfold fitB
  simp [clB, namB]
  try grind
theorem by_10 (id al : Int) (name : List Int) (prio ord sg so eg eo : Int) (sm : Bool) (code : Int) (reason : List Int) (n ver : Int) (vers : List Int) : bytM ⟨10, id, al, name, prio, ord, sg, so, eg, eo, sm, code, reason, n, ver, vers⟩ = encR (foW 10) ⟨10, id, al, name, prio, ord, sg, so, eg, eo, sm, code, reason, n, ver, vers⟩ 13 := by
  have h1 : bytM ⟨10, id, al, name, prio, ord, sg, so, eg, eo, sm, code, reason, n, ver, vers⟩ = ([] ++ vencs [id]) := rfl
  rw [h1, show foW 10 = 1 by decide]
  simp only [encR, show hasB 1 0 = true by decide, show hasB 1 1 = false by decide, show hasB 1 2 = false by decide, show hasB 1 3 = false by decide, show hasB 1 4 = false by decide, show hasB 1 5 = false by decide, show hasB 1 6 = false by decide, show hasB 1 7 = false by decide, show hasB 1 8 = false by decide, show hasB 1 9 = false by decide, show hasB 1 10 = false by decide, show hasB 1 11 = false by decide, show hasB 1 12 = false by decide, if_true, Bool.false_eq_true, if_false, encF, vencs_one, vencs_two, List.nil_append, List.append_nil, List.append_assoc]
  try simp
theorem rv_11 (id al : Int) (name : List Int) (prio ord sg so eg eo : Int) (sm : Bool) (code : Int) (reason : List Int) (n ver : Int) (vers : List Int) : rightM ⟨11, id, al, name, prio, ord, sg, so, eg, eo, sm, code, reason, n, ver, vers⟩ = validB ⟨11, id, al, name, prio, ord, sg, so, eg, eo, sm, code, reason, n, ver, vers⟩ := by
  have hl : lettersOk (shapeW 11) ⟨11, id, al, name, prio, ord, sg, so, eg, eo, sm, code, reason, n, ver, vers⟩ = ((true) && ((true) && ((true) && true))) := rfl
  unfold rightM validB
  rw [only_11, encW_nums, set_iff ⟨11, id, al, name, prio, ord, sg, so, eg, eo, sm, code, reason, n, ver, vers⟩ (show knW 11 = true by decide)]
  simp only [hl, show foW 11 = 769 by decide, show hasB 769 0 = true by decide, show hasB 769 1 = false by decide, show hasB 769 2 = false by decide, show hasB 769 3 = false by decide, show hasB 769 4 = false by decide, show hasB 769 5 = false by decide, show hasB 769 6 = false by decide, show hasB 769 7 = false by decide, show hasB 769 8 = true by decide, show hasB 769 9 = true by decide, show hasB 769 10 = false by decide, show hasB 769 11 = false by decide, show hasB 769 12 = false by decide, Bool.true_or, Bool.false_or, Bool.true_and, Bool.and_true]
  rw [Bool.eq_iff_iff]
  simp only [Bool.and_eq_true, sameMB_iff, MV.mk.injEq, decide_eq_true_eq, Bool.not_eq_true', Bool.or_eq_true, bne_eq_false_iff_eq, decide_eq_false_iff_not, Classical.not_not]
  unfold fitB
  simp [clB, namB]
  try grind
theorem by_11 (id al : Int) (name : List Int) (prio ord sg so eg eo : Int) (sm : Bool) (code : Int) (reason : List Int) (n ver : Int) (vers : List Int) : bytM ⟨11, id, al, name, prio, ord, sg, so, eg, eo, sm, code, reason, n, ver, vers⟩ = encR (foW 11) ⟨11, id, al, name, prio, ord, sg, so, eg, eo, sm, code, reason, n, ver, vers⟩ 13 := by
  have h1 : bytM ⟨11, id, al, name, prio, ord, sg, so, eg, eo, sm, code, reason, n, ver, vers⟩ = ((([] ++ vencs [id]) ++ vencs [code]) ++ vtext reason) := rfl
  rw [h1, show foW 11 = 769 by decide]
  simp only [encR, show hasB 769 0 = true by decide, show hasB 769 1 = false by decide, show hasB 769 2 = false by decide, show hasB 769 3 = false by decide, show hasB 769 4 = false by decide, show hasB 769 5 = false by decide, show hasB 769 6 = false by decide, show hasB 769 7 = false by decide, show hasB 769 8 = true by decide, show hasB 769 9 = true by decide, show hasB 769 10 = false by decide, show hasB 769 11 = false by decide, show hasB 769 12 = false by decide, if_true, Bool.false_eq_true, if_false, encF, vencs_one, vencs_two, List.nil_append, List.append_nil, List.append_assoc]
  try simp
theorem rv_16 (id al : Int) (name : List Int) (prio ord sg so eg eo : Int) (sm : Bool) (code : Int) (reason : List Int) (n ver : Int) (vers : List Int) : rightM ⟨16, id, al, name, prio, ord, sg, so, eg, eo, sm, code, reason, n, ver, vers⟩ = validB ⟨16, id, al, name, prio, ord, sg, so, eg, eo, sm, code, reason, n, ver, vers⟩ := by
  have hl : lettersOk (shapeW 16) ⟨16, id, al, name, prio, ord, sg, so, eg, eo, sm, code, reason, n, ver, vers⟩ = (true) := rfl
  unfold rightM validB
  rw [only_16, encW_nums, set_iff ⟨16, id, al, name, prio, ord, sg, so, eg, eo, sm, code, reason, n, ver, vers⟩ (show knW 16 = true by decide)]
  simp only [hl, show foW 16 = 0 by decide, show hasB 0 0 = false by decide, show hasB 0 1 = false by decide, show hasB 0 2 = false by decide, show hasB 0 3 = false by decide, show hasB 0 4 = false by decide, show hasB 0 5 = false by decide, show hasB 0 6 = false by decide, show hasB 0 7 = false by decide, show hasB 0 8 = false by decide, show hasB 0 9 = false by decide, show hasB 0 10 = false by decide, show hasB 0 11 = false by decide, show hasB 0 12 = false by decide, Bool.true_or, Bool.false_or, Bool.true_and, Bool.and_true]
  rw [Bool.eq_iff_iff]
  simp only [Bool.and_eq_true, sameMB_iff, MV.mk.injEq, decide_eq_true_eq, Bool.not_eq_true', Bool.or_eq_true, bne_eq_false_iff_eq, decide_eq_false_iff_not, Classical.not_not]
  unfold fitB
  simp [clB, namB]
  try grind
theorem by_16 (id al : Int) (name : List Int) (prio ord sg so eg eo : Int) (sm : Bool) (code : Int) (reason : List Int) (n ver : Int) (vers : List Int) : bytM ⟨16, id, al, name, prio, ord, sg, so, eg, eo, sm, code, reason, n, ver, vers⟩ = encR (foW 16) ⟨16, id, al, name, prio, ord, sg, so, eg, eo, sm, code, reason, n, ver, vers⟩ 13 := by
  have h1 : bytM ⟨16, id, al, name, prio, ord, sg, so, eg, eo, sm, code, reason, n, ver, vers⟩ = [] := rfl
  rw [h1, show foW 16 = 0 by decide]
  simp only [encR, show hasB 0 0 = false by decide, show hasB 0 1 = false by decide, show hasB 0 2 = false by decide, show hasB 0 3 = false by decide, show hasB 0 4 = false by decide, show hasB 0 5 = false by decide, show hasB 0 6 = false by decide, show hasB 0 7 = false by decide, show hasB 0 8 = false by decide, show hasB 0 9 = false by decide, show hasB 0 10 = false by decide, show hasB 0 11 = false by decide, show hasB 0 12 = false by decide, if_true, Bool.false_eq_true, if_false, encF, vencs_one, vencs_two, List.nil_append, List.append_nil, List.append_assoc]
  try simp
theorem rv_21 (id al : Int) (name : List Int) (prio ord sg so eg eo : Int) (sm : Bool) (code : Int) (reason : List Int) (n ver : Int) (vers : List Int) : rightM ⟨21, id, al, name, prio, ord, sg, so, eg, eo, sm, code, reason, n, ver, vers⟩ = validB ⟨21, id, al, name, prio, ord, sg, so, eg, eo, sm, code, reason, n, ver, vers⟩ := by
  have hl : lettersOk (shapeW 21) ⟨21, id, al, name, prio, ord, sg, so, eg, eo, sm, code, reason, n, ver, vers⟩ = ((true) && true) := rfl
  unfold rightM validB
  rw [only_21, encW_nums, set_iff ⟨21, id, al, name, prio, ord, sg, so, eg, eo, sm, code, reason, n, ver, vers⟩ (show knW 21 = true by decide)]
  simp only [hl, show foW 21 = 4096 by decide, show hasB 4096 0 = false by decide, show hasB 4096 1 = false by decide, show hasB 4096 2 = false by decide, show hasB 4096 3 = false by decide, show hasB 4096 4 = false by decide, show hasB 4096 5 = false by decide, show hasB 4096 6 = false by decide, show hasB 4096 7 = false by decide, show hasB 4096 8 = false by decide, show hasB 4096 9 = false by decide, show hasB 4096 10 = false by decide, show hasB 4096 11 = false by decide, show hasB 4096 12 = true by decide, Bool.true_or, Bool.false_or, Bool.true_and, Bool.and_true]
  rw [Bool.eq_iff_iff]
  simp only [Bool.and_eq_true, sameMB_iff, MV.mk.injEq, decide_eq_true_eq, Bool.not_eq_true', Bool.or_eq_true, bne_eq_false_iff_eq, decide_eq_false_iff_not, Classical.not_not]
  unfold fitB
  simp [clB, namB]
  try grind
theorem by_21 (id al : Int) (name : List Int) (prio ord sg so eg eo : Int) (sm : Bool) (code : Int) (reason : List Int) (n ver : Int) (vers : List Int) : bytM ⟨21, id, al, name, prio, ord, sg, so, eg, eo, sm, code, reason, n, ver, vers⟩ = encR (foW 21) ⟨21, id, al, name, prio, ord, sg, so, eg, eo, sm, code, reason, n, ver, vers⟩ 13 := by
  have h1 : bytM ⟨21, id, al, name, prio, ord, sg, so, eg, eo, sm, code, reason, n, ver, vers⟩ = ([] ++ vencs [n]) := rfl
  rw [h1, show foW 21 = 4096 by decide]
  simp only [encR, show hasB 4096 0 = false by decide, show hasB 4096 1 = false by decide, show hasB 4096 2 = false by decide, show hasB 4096 3 = false by decide, show hasB 4096 4 = false by decide, show hasB 4096 5 = false by decide, show hasB 4096 6 = false by decide, show hasB 4096 7 = false by decide, show hasB 4096 8 = false by decide, show hasB 4096 9 = false by decide, show hasB 4096 10 = false by decide, show hasB 4096 11 = false by decide, show hasB 4096 12 = true by decide, if_true, Bool.false_eq_true, if_false, encF, vencs_one, vencs_two, List.nil_append, List.append_nil, List.append_assoc]
  try simp
theorem rv_22 (id al : Int) (name : List Int) (prio ord sg so eg eo : Int) (sm : Bool) (code : Int) (reason : List Int) (n ver : Int) (vers : List Int) : rightM ⟨22, id, al, name, prio, ord, sg, so, eg, eo, sm, code, reason, n, ver, vers⟩ = validB ⟨22, id, al, name, prio, ord, sg, so, eg, eo, sm, code, reason, n, ver, vers⟩ := by
  have hl : lettersOk (shapeW 22) ⟨22, id, al, name, prio, ord, sg, so, eg, eo, sm, code, reason, n, ver, vers⟩ = ((true) && ((decide (1 ≤ name.length) && decide (name.length ≤ 32)) && ((true) && ((true) && ((!lessB eg eo sg so) && true))))) := rfl
  unfold rightM validB
  rw [only_22, encW_nums, set_iff ⟨22, id, al, name, prio, ord, sg, so, eg, eo, sm, code, reason, n, ver, vers⟩ (show knW 22 = true by decide)]
  simp only [hl, show foW 22 = 205 by decide, show hasB 205 0 = true by decide, show hasB 205 1 = false by decide, show hasB 205 2 = true by decide, show hasB 205 3 = true by decide, show hasB 205 4 = false by decide, show hasB 205 5 = false by decide, show hasB 205 6 = true by decide, show hasB 205 7 = true by decide, show hasB 205 8 = false by decide, show hasB 205 9 = false by decide, show hasB 205 10 = false by decide, show hasB 205 11 = false by decide, show hasB 205 12 = false by decide, Bool.true_or, Bool.false_or, Bool.true_and, Bool.and_true]
  rw [Bool.eq_iff_iff]
  simp only [Bool.and_eq_true, sameMB_iff, MV.mk.injEq, decide_eq_true_eq, Bool.not_eq_true', Bool.or_eq_true, bne_eq_false_iff_eq, decide_eq_false_iff_not, Classical.not_not]
  unfold fitB
  simp [clB, namB]
  try grind
theorem by_22 (id al : Int) (name : List Int) (prio ord sg so eg eo : Int) (sm : Bool) (code : Int) (reason : List Int) (n ver : Int) (vers : List Int) : bytM ⟨22, id, al, name, prio, ord, sg, so, eg, eo, sm, code, reason, n, ver, vers⟩ = encR (foW 22) ⟨22, id, al, name, prio, ord, sg, so, eg, eo, sm, code, reason, n, ver, vers⟩ 13 := by
  have h1 : bytM ⟨22, id, al, name, prio, ord, sg, so, eg, eo, sm, code, reason, n, ver, vers⟩ = ((((([] ++ vencs [id]) ++ vtext name) ++ [prio]) ++ vencs [sg, so]) ++ vencs [eg, eo]) := rfl
  rw [h1, show foW 22 = 205 by decide]
  simp only [encR, show hasB 205 0 = true by decide, show hasB 205 1 = false by decide, show hasB 205 2 = true by decide, show hasB 205 3 = true by decide, show hasB 205 4 = false by decide, show hasB 205 5 = false by decide, show hasB 205 6 = true by decide, show hasB 205 7 = true by decide, show hasB 205 8 = false by decide, show hasB 205 9 = false by decide, show hasB 205 10 = false by decide, show hasB 205 11 = false by decide, show hasB 205 12 = false by decide, if_true, Bool.false_eq_true, if_false, encF, vencs_one, vencs_two, List.nil_append, List.append_nil, List.append_assoc]
  try simp
theorem rv_23 (id al : Int) (name : List Int) (prio ord sg so eg eo : Int) (sm : Bool) (code : Int) (reason : List Int) (n ver : Int) (vers : List Int) : rightM ⟨23, id, al, name, prio, ord, sg, so, eg, eo, sm, code, reason, n, ver, vers⟩ = validB ⟨23, id, al, name, prio, ord, sg, so, eg, eo, sm, code, reason, n, ver, vers⟩ := by
  have hl : lettersOk (shapeW 23) ⟨23, id, al, name, prio, ord, sg, so, eg, eo, sm, code, reason, n, ver, vers⟩ = ((true) && true) := rfl
  unfold rightM validB
  rw [only_23, encW_nums, set_iff ⟨23, id, al, name, prio, ord, sg, so, eg, eo, sm, code, reason, n, ver, vers⟩ (show knW 23 = true by decide)]
  simp only [hl, show foW 23 = 1 by decide, show hasB 1 0 = true by decide, show hasB 1 1 = false by decide, show hasB 1 2 = false by decide, show hasB 1 3 = false by decide, show hasB 1 4 = false by decide, show hasB 1 5 = false by decide, show hasB 1 6 = false by decide, show hasB 1 7 = false by decide, show hasB 1 8 = false by decide, show hasB 1 9 = false by decide, show hasB 1 10 = false by decide, show hasB 1 11 = false by decide, show hasB 1 12 = false by decide, Bool.true_or, Bool.false_or, Bool.true_and, Bool.and_true]
  rw [Bool.eq_iff_iff]
  simp only [Bool.and_eq_true, sameMB_iff, MV.mk.injEq, decide_eq_true_eq, Bool.not_eq_true', Bool.or_eq_true, bne_eq_false_iff_eq, decide_eq_false_iff_not, Classical.not_not]
  unfold fitB
  simp [clB, namB]
  try grind
theorem by_23 (id al : Int) (name : List Int) (prio ord sg so eg eo : Int) (sm : Bool) (code : Int) (reason : List Int) (n ver : Int) (vers : List Int) : bytM ⟨23, id, al, name, prio, ord, sg, so, eg, eo, sm, code, reason, n, ver, vers⟩ = encR (foW 23) ⟨23, id, al, name, prio, ord, sg, so, eg, eo, sm, code, reason, n, ver, vers⟩ 13 := by
  have h1 : bytM ⟨23, id, al, name, prio, ord, sg, so, eg, eo, sm, code, reason, n, ver, vers⟩ = ([] ++ vencs [id]) := rfl
  rw [h1, show foW 23 = 1 by decide]
  simp only [encR, show hasB 1 0 = true by decide, show hasB 1 1 = false by decide, show hasB 1 2 = false by decide, show hasB 1 3 = false by decide, show hasB 1 4 = false by decide, show hasB 1 5 = false by decide, show hasB 1 6 = false by decide, show hasB 1 7 = false by decide, show hasB 1 8 = false by decide, show hasB 1 9 = false by decide, show hasB 1 10 = false by decide, show hasB 1 11 = false by decide, show hasB 1 12 = false by decide, if_true, Bool.false_eq_true, if_false, encF, vencs_one, vencs_two, List.nil_append, List.append_nil, List.append_assoc]
  try simp
theorem rv_24 (id al : Int) (name : List Int) (prio ord sg so eg eo : Int) (sm : Bool) (code : Int) (reason : List Int) (n ver : Int) (vers : List Int) : rightM ⟨24, id, al, name, prio, ord, sg, so, eg, eo, sm, code, reason, n, ver, vers⟩ = validB ⟨24, id, al, name, prio, ord, sg, so, eg, eo, sm, code, reason, n, ver, vers⟩ := by
  have hl : lettersOk (shapeW 24) ⟨24, id, al, name, prio, ord, sg, so, eg, eo, sm, code, reason, n, ver, vers⟩ = ((true) && true) := rfl
  unfold rightM validB
  rw [only_24, encW_nums, set_iff ⟨24, id, al, name, prio, ord, sg, so, eg, eo, sm, code, reason, n, ver, vers⟩ (show knW 24 = true by decide)]
  simp only [hl, show foW 24 = 1 by decide, show hasB 1 0 = true by decide, show hasB 1 1 = false by decide, show hasB 1 2 = false by decide, show hasB 1 3 = false by decide, show hasB 1 4 = false by decide, show hasB 1 5 = false by decide, show hasB 1 6 = false by decide, show hasB 1 7 = false by decide, show hasB 1 8 = false by decide, show hasB 1 9 = false by decide, show hasB 1 10 = false by decide, show hasB 1 11 = false by decide, show hasB 1 12 = false by decide, Bool.true_or, Bool.false_or, Bool.true_and, Bool.and_true]
  rw [Bool.eq_iff_iff]
  simp only [Bool.and_eq_true, sameMB_iff, MV.mk.injEq, decide_eq_true_eq, Bool.not_eq_true', Bool.or_eq_true, bne_eq_false_iff_eq, decide_eq_false_iff_not, Classical.not_not]
  unfold fitB
  simp [clB, namB]
  try grind
theorem by_24 (id al : Int) (name : List Int) (prio ord sg so eg eo : Int) (sm : Bool) (code : Int) (reason : List Int) (n ver : Int) (vers : List Int) : bytM ⟨24, id, al, name, prio, ord, sg, so, eg, eo, sm, code, reason, n, ver, vers⟩ = encR (foW 24) ⟨24, id, al, name, prio, ord, sg, so, eg, eo, sm, code, reason, n, ver, vers⟩ 13 := by
  have h1 : bytM ⟨24, id, al, name, prio, ord, sg, so, eg, eo, sm, code, reason, n, ver, vers⟩ = ([] ++ vencs [id]) := rfl
  rw [h1, show foW 24 = 1 by decide]
  simp only [encR, show hasB 1 0 = true by decide, show hasB 1 1 = false by decide, show hasB 1 2 = false by decide, show hasB 1 3 = false by decide, show hasB 1 4 = false by decide, show hasB 1 5 = false by decide, show hasB 1 6 = false by decide, show hasB 1 7 = false by decide, show hasB 1 8 = false by decide, show hasB 1 9 = false by decide, show hasB 1 10 = false by decide, show hasB 1 11 = false by decide, show hasB 1 12 = false by decide, if_true, Bool.false_eq_true, if_false, encF, vencs_one, vencs_two, List.nil_append, List.append_nil, List.append_assoc]
  try simp
theorem rv_25 (id al : Int) (name : List Int) (prio ord sg so eg eo : Int) (sm : Bool) (code : Int) (reason : List Int) (n ver : Int) (vers : List Int) : rightM ⟨25, id, al, name, prio, ord, sg, so, eg, eo, sm, code, reason, n, ver, vers⟩ = validB ⟨25, id, al, name, prio, ord, sg, so, eg, eo, sm, code, reason, n, ver, vers⟩ := by
  have hl : lettersOk (shapeW 25) ⟨25, id, al, name, prio, ord, sg, so, eg, eo, sm, code, reason, n, ver, vers⟩ = ((true) && ((true) && ((true) && true))) := rfl
  unfold rightM validB
  rw [only_25, encW_nums, set_iff ⟨25, id, al, name, prio, ord, sg, so, eg, eo, sm, code, reason, n, ver, vers⟩ (show knW 25 = true by decide)]
  simp only [hl, show foW 25 = 769 by decide, show hasB 769 0 = true by decide, show hasB 769 1 = false by decide, show hasB 769 2 = false by decide, show hasB 769 3 = false by decide, show hasB 769 4 = false by decide, show hasB 769 5 = false by decide, show hasB 769 6 = false by decide, show hasB 769 7 = false by decide, show hasB 769 8 = true by decide, show hasB 769 9 = true by decide, show hasB 769 10 = false by decide, show hasB 769 11 = false by decide, show hasB 769 12 = false by decide, Bool.true_or, Bool.false_or, Bool.true_and, Bool.and_true]
  rw [Bool.eq_iff_iff]
  simp only [Bool.and_eq_true, sameMB_iff, MV.mk.injEq, decide_eq_true_eq, Bool.not_eq_true', Bool.or_eq_true, bne_eq_false_iff_eq, decide_eq_false_iff_not, Classical.not_not]
  unfold fitB
  simp [clB, namB]
  try grind
theorem by_25 (id al : Int) (name : List Int) (prio ord sg so eg eo : Int) (sm : Bool) (code : Int) (reason : List Int) (n ver : Int) (vers : List Int) : bytM ⟨25, id, al, name, prio, ord, sg, so, eg, eo, sm, code, reason, n, ver, vers⟩ = encR (foW 25) ⟨25, id, al, name, prio, ord, sg, so, eg, eo, sm, code, reason, n, ver, vers⟩ 13 := by
  have h1 : bytM ⟨25, id, al, name, prio, ord, sg, so, eg, eo, sm, code, reason, n, ver, vers⟩ = ((([] ++ vencs [id]) ++ vencs [code]) ++ vtext reason) := rfl
  rw [h1, show foW 25 = 769 by decide]
  simp only [encR, show hasB 769 0 = true by decide, show hasB 769 1 = false by decide, show hasB 769 2 = false by decide, show hasB 769 3 = false by decide, show hasB 769 4 = false by decide, show hasB 769 5 = false by decide, show hasB 769 6 = false by decide, show hasB 769 7 = false by decide, show hasB 769 8 = true by decide, show hasB 769 9 = true by decide, show hasB 769 10 = false by decide, show hasB 769 11 = false by decide, show hasB 769 12 = false by decide, if_true, Bool.false_eq_true, if_false, encF, vencs_one, vencs_two, List.nil_append, List.append_nil, List.append_assoc]
  try simp
theorem rv_32 (id al : Int) (name : List Int) (prio ord sg so eg eo : Int) (sm : Bool) (code : Int) (reason : List Int) (n ver : Int) (vers : List Int) : rightM ⟨32, id, al, name, prio, ord, sg, so, eg, eo, sm, code, reason, n, ver, vers⟩ = validB ⟨32, id, al, name, prio, ord, sg, so, eg, eo, sm, code, reason, n, ver, vers⟩ := by
  have hl : lettersOk (shapeW 32) ⟨32, id, al, name, prio, ord, sg, so, eg, eo, sm, code, reason, n, ver, vers⟩ = ((decide (1 ≤ vers.length) && decide (vers.length ≤ 8)) && ((true) && true)) := rfl
  unfold rightM validB
  rw [only_32, encW_nums, set_iff ⟨32, id, al, name, prio, ord, sg, so, eg, eo, sm, code, reason, n, ver, vers⟩ (show knW 32 = true by decide)]
  simp only [hl, show foW 32 = 5120 by decide, show hasB 5120 0 = false by decide, show hasB 5120 1 = false by decide, show hasB 5120 2 = false by decide, show hasB 5120 3 = false by decide, show hasB 5120 4 = false by decide, show hasB 5120 5 = false by decide, show hasB 5120 6 = false by decide, show hasB 5120 7 = false by decide, show hasB 5120 8 = false by decide, show hasB 5120 9 = false by decide, show hasB 5120 10 = true by decide, show hasB 5120 11 = false by decide, show hasB 5120 12 = true by decide, Bool.true_or, Bool.false_or, Bool.true_and, Bool.and_true]
  rw [Bool.eq_iff_iff]
  simp only [Bool.and_eq_true, sameMB_iff, MV.mk.injEq, decide_eq_true_eq, Bool.not_eq_true', Bool.or_eq_true, bne_eq_false_iff_eq, decide_eq_false_iff_not, Classical.not_not]
  unfold fitB
  simp [clB, namB]
  try grind
theorem by_32 (id al : Int) (name : List Int) (prio ord sg so eg eo : Int) (sm : Bool) (code : Int) (reason : List Int) (n ver : Int) (vers : List Int) : bytM ⟨32, id, al, name, prio, ord, sg, so, eg, eo, sm, code, reason, n, ver, vers⟩ = encR (foW 32) ⟨32, id, al, name, prio, ord, sg, so, eg, eo, sm, code, reason, n, ver, vers⟩ 13 := by
  have h1 : bytM ⟨32, id, al, name, prio, ord, sg, so, eg, eo, sm, code, reason, n, ver, vers⟩ = (([] ++ (vencs [(vers.length : Int)] ++ vencs vers)) ++ vencs [n]) := rfl
  rw [h1, show foW 32 = 5120 by decide]
  simp only [encR, show hasB 5120 0 = false by decide, show hasB 5120 1 = false by decide, show hasB 5120 2 = false by decide, show hasB 5120 3 = false by decide, show hasB 5120 4 = false by decide, show hasB 5120 5 = false by decide, show hasB 5120 6 = false by decide, show hasB 5120 7 = false by decide, show hasB 5120 8 = false by decide, show hasB 5120 9 = false by decide, show hasB 5120 10 = true by decide, show hasB 5120 11 = false by decide, show hasB 5120 12 = true by decide, if_true, Bool.false_eq_true, if_false, encF, vencs_one, vencs_two, List.nil_append, List.append_nil, List.append_assoc]
  try simp
theorem rv_33 (id al : Int) (name : List Int) (prio ord sg so eg eo : Int) (sm : Bool) (code : Int) (reason : List Int) (n ver : Int) (vers : List Int) : rightM ⟨33, id, al, name, prio, ord, sg, so, eg, eo, sm, code, reason, n, ver, vers⟩ = validB ⟨33, id, al, name, prio, ord, sg, so, eg, eo, sm, code, reason, n, ver, vers⟩ := by
  have hl : lettersOk (shapeW 33) ⟨33, id, al, name, prio, ord, sg, so, eg, eo, sm, code, reason, n, ver, vers⟩ = ((true) && ((true) && true)) := rfl
  unfold rightM validB
  rw [only_33, encW_nums, set_iff ⟨33, id, al, name, prio, ord, sg, so, eg, eo, sm, code, reason, n, ver, vers⟩ (show knW 33 = true by decide)]
  simp only [hl, show foW 33 = 6144 by decide, show hasB 6144 0 = false by decide, show hasB 6144 1 = false by decide, show hasB 6144 2 = false by decide, show hasB 6144 3 = false by decide, show hasB 6144 4 = false by decide, show hasB 6144 5 = false by decide, show hasB 6144 6 = false by decide, show hasB 6144 7 = false by decide, show hasB 6144 8 = false by decide, show hasB 6144 9 = false by decide, show hasB 6144 10 = false by decide, show hasB 6144 11 = true by decide, show hasB 6144 12 = true by decide, Bool.true_or, Bool.false_or, Bool.true_and, Bool.and_true]
  rw [Bool.eq_iff_iff]
  simp only [Bool.and_eq_true, sameMB_iff, MV.mk.injEq, decide_eq_true_eq, Bool.not_eq_true', Bool.or_eq_true, bne_eq_false_iff_eq, decide_eq_false_iff_not, Classical.not_not]
  unfold fitB
  simp [clB, namB]
  try grind
theorem by_33 (id al : Int) (name : List Int) (prio ord sg so eg eo : Int) (sm : Bool) (code : Int) (reason : List Int) (n ver : Int) (vers : List Int) : bytM ⟨33, id, al, name, prio, ord, sg, so, eg, eo, sm, code, reason, n, ver, vers⟩ = encR (foW 33) ⟨33, id, al, name, prio, ord, sg, so, eg, eo, sm, code, reason, n, ver, vers⟩ 13 := by
  have h1 : bytM ⟨33, id, al, name, prio, ord, sg, so, eg, eo, sm, code, reason, n, ver, vers⟩ = (([] ++ vencs [ver]) ++ vencs [n]) := rfl
  rw [h1, show foW 33 = 6144 by decide]
  simp only [encR, show hasB 6144 0 = false by decide, show hasB 6144 1 = false by decide, show hasB 6144 2 = false by decide, show hasB 6144 3 = false by decide, show hasB 6144 4 = false by decide, show hasB 6144 5 = false by decide, show hasB 6144 6 = false by decide, show hasB 6144 7 = false by decide, show hasB 6144 8 = false by decide, show hasB 6144 9 = false by decide, show hasB 6144 10 = false by decide, show hasB 6144 11 = true by decide, show hasB 6144 12 = true by decide, if_true, Bool.false_eq_true, if_false, encF, vencs_one, vencs_two, List.nil_append, List.append_nil, List.append_assoc]
  try simp
theorem right_valid (m : MV) : rightM m = validB m := by
  by_cases hk : knW m.kind = true
  · have hin : m.kind ∈ kindsW := by simpa [knW] using hk
    obtain ⟨kind, id, al, name, prio, ord, sg, so, eg, eo, sm, code, reason, n, ver, vers⟩ := m
    simp only [kindsW, List.mem_cons, List.not_mem_nil, or_false] at hin
    rcases hin with rfl | rfl | rfl | rfl | rfl | rfl | rfl | rfl | rfl | rfl | rfl | rfl | rfl | rfl | rfl | rfl | rfl
    · exact rv_3 id al name prio ord sg so eg eo sm code reason n ver vers
    · exact rv_4 id al name prio ord sg so eg eo sm code reason n ver vers
    · exact rv_5 id al name prio ord sg so eg eo sm code reason n ver vers
    · exact rv_6 id al name prio ord sg so eg eo sm code reason n ver vers
    · exact rv_7 id al name prio ord sg so eg eo sm code reason n ver vers
    · exact rv_8 id al name prio ord sg so eg eo sm code reason n ver vers
    · exact rv_9 id al name prio ord sg so eg eo sm code reason n ver vers
    · exact rv_10 id al name prio ord sg so eg eo sm code reason n ver vers
    · exact rv_11 id al name prio ord sg so eg eo sm code reason n ver vers
    · exact rv_16 id al name prio ord sg so eg eo sm code reason n ver vers
    · exact rv_21 id al name prio ord sg so eg eo sm code reason n ver vers
    · exact rv_22 id al name prio ord sg so eg eo sm code reason n ver vers
    · exact rv_23 id al name prio ord sg so eg eo sm code reason n ver vers
    · exact rv_24 id al name prio ord sg so eg eo sm code reason n ver vers
    · exact rv_25 id al name prio ord sg so eg eo sm code reason n ver vers
    · exact rv_32 id al name prio ord sg so eg eo sm code reason n ver vers
    · exact rv_33 id al name prio ord sg so eg eo sm code reason n ver vers
  · have hf : knW m.kind = false := by simpa using hk
    unfold rightM validB
    rw [hf]
    rfl
theorem bytM_enc (m : MV) (hk : knW m.kind = true) : bytM m = encR (foW m.kind) m 13 := by
  have hin : m.kind ∈ kindsW := by simpa [knW] using hk
  obtain ⟨kind, id, al, name, prio, ord, sg, so, eg, eo, sm, code, reason, n, ver, vers⟩ := m
  simp only [kindsW, List.mem_cons, List.not_mem_nil, or_false] at hin
  rcases hin with rfl | rfl | rfl | rfl | rfl | rfl | rfl | rfl | rfl | rfl | rfl | rfl | rfl | rfl | rfl | rfl | rfl
  · exact by_3 id al name prio ord sg so eg eo sm code reason n ver vers
  · exact by_4 id al name prio ord sg so eg eo sm code reason n ver vers
  · exact by_5 id al name prio ord sg so eg eo sm code reason n ver vers
  · exact by_6 id al name prio ord sg so eg eo sm code reason n ver vers
  · exact by_7 id al name prio ord sg so eg eo sm code reason n ver vers
  · exact by_8 id al name prio ord sg so eg eo sm code reason n ver vers
  · exact by_9 id al name prio ord sg so eg eo sm code reason n ver vers
  · exact by_10 id al name prio ord sg so eg eo sm code reason n ver vers
  · exact by_11 id al name prio ord sg so eg eo sm code reason n ver vers
  · exact by_16 id al name prio ord sg so eg eo sm code reason n ver vers
  · exact by_21 id al name prio ord sg so eg eo sm code reason n ver vers
  · exact by_22 id al name prio ord sg so eg eo sm code reason n ver vers
  · exact by_23 id al name prio ord sg so eg eo sm code reason n ver vers
  · exact by_24 id al name prio ord sg so eg eo sm code reason n ver vers
  · exact by_25 id al name prio ord sg so eg eo sm code reason n ver vers
  · exact by_32 id al name prio ord sg so eg eo sm code reason n ver vers
  · exact by_33 id al name prio ord sg so eg eo sm code reason n ver vers
theorem refB_enc (m : MV) (hk : knW m.kind = true) : refB m = encM m := by
  unfold refB encM
  rw [bytM_enc m hk, vencs_one]
theorem inM_of {m : MV} (h : validB m = true) (hp : ∀ x ∈ numsM m, 0 ≤ x) : InM m := by
  have hk := own_in (valid_kind h)
  have he : encW m = true := by
    unfold validB at h
    simp only [Bool.and_eq_true] at h
    exact h.1.2
  rw [encW_nums] at he
  have hh : ∀ x ∈ numsM m, InR x := fun x hx => by
    have := List.all_eq_true.1 he x hx
    simp at this
    exact ⟨hp x hx, by omega⟩
  exact ⟨hh _ (by simp [numsM]), hh _ (by simp [numsM]), hh _ (by simp [numsM]), hh _ (by simp [numsM]), hh _ (by simp [numsM]), hh _ (by simp [numsM]), hh _ (by simp [numsM]), hh _ (by simp [numsM]), hh _ (by simp [numsM]), ⟨hk.2.1, by have := hk.2.2; omega⟩, fun x hx => hh x (by simp [numsM, hx])⟩
theorem goodV_of {m : MV} (h : validB m = true) (hp : ∀ x ∈ numsM m, 0 ≤ x) : GoodV m := by
  have hi := inM_of h hp
  have hl := valid_lens h
  exact ⟨hi.id, hi.alias_, hi.sg, hi.so, hi.eg, hi.eo, hi.code, hi.n, hi.ver, by omega, by omega, hl.2.2.1, hi.vers⟩
end Go.Proofs.YtfedofoadfipcaaDoor

/-
  Pure: what the reference's Read reads by letters is what the program reads by fields (made by mkWrdK.py).
-/
namespace Go.Proofs.YtfedofoadfipcaaDoor
open Go.RowKit
set_option linter.unusedVariables false
set_option linter.unusedSimpArgs false
def bnd (x : Option (MV × List Int)) (f : MV → List Int → Option (MV × List Int)) : Option (MV × List Int) :=
  match x with
  | none => none
  | some (m, p) => f m p
theorem bnd_some (x : Option (MV × List Int)) : bnd x (fun m p => some (m, p)) = x := by
  cases x with
  | none => rfl
  | some r => rfl
theorem bnd_congr {x : Option (MV × List Int)} {f g : MV → List Int → Option (MV × List Int)} (h : ∀ m q, x = some (m, q) → f m q = g m q) : bnd x f = bnd x g := by
  cases x with
  | none => rfl
  | some r => exact h r.1 r.2 rfl
theorem bnd_of {x : Option (MV × List Int)} {f : MV → List Int → Option (MV × List Int)} {m : MV} {q : List Int} (h : bnd x f = some (m, q)) : ∃ m1 q1, x = some (m1, q1) ∧ f m1 q1 = some (m, q) := by
  cases x with
  | none => cases h
  | some r => exact ⟨r.1, r.2, rfl, h⟩
/-- What a letter takes. -/
def rdC (c : Nat) (m : MV) (p : List Int) : Option (MV × List Int) :=
  match c with
  | 105 => (pnum p).map fun r => ({ m with id := r.1 }, r.2)
  | 97 => (pnum p).map fun r => ({ m with alias_ := r.1 }, r.2)
  | 116 => (ptext 1048576 p).map fun r => ({ m with name := r.1 }, r.2)
  | 112 => match p with
    | [] => none
    | x :: r => some ({ m with prio := x }, r)
  | 111 => match p with
    | [] => none
    | x :: r => some ({ m with ord := x }, r)
  | 115 => (pplace p).map fun r => ({ m with sg := r.1.1, so := r.1.2 }, r.2)
  | 101 => (pplace p).map fun r => ({ m with eg := r.1.1, eo := r.1.2 }, r.2)
  | 103 => (pnum p).map fun r => ({ m with eg := r.1 }, r.2)
  | 98 => (pbit p).map fun r => ({ m with some_ := r.1 }, r.2)
  | 99 => (pnum p).map fun r => ({ m with code := r.1 }, r.2)
  | 114 => (ptext 1048576 p).map fun r => ({ m with reason := r.1 }, r.2)
  | 110 => (pnum p).map fun r => ({ m with n := r.1 }, r.2)
  | 118 => (pnum p).map fun r => ({ m with ver := r.1 }, r.2)
  | 108 => (plist p).map fun r => ({ m with vers := r.1 }, r.2)
  | _ => some (m, p)
def rdR (s : ByteArray) (m : MV) (p : List Int) : Nat → Option (MV × List Int)
  | 0 => some (m, p)
  | j + 1 => bnd (rdR s m p j) (rdC (chW s j))
/-- A field, its text up to 2^20. -/
def takeT (k : Nat) (m : MV) (p : List Int) : Option (MV × List Int) :=
  match k with
  | 2 => (ptext 1048576 p).map fun r => ({ m with name := r.1 }, r.2)
  | 9 => (ptext 1048576 p).map fun r => ({ m with reason := r.1 }, r.2)
  | k => takeF k m p
def stepT (own : Int) (k : Nat) (m : MV) (p : List Int) : Option (MV × List Int) := if hasB own k then takeT k m p else some (m, p)
def runT (own : Int) : Nat → MV → List Int → Option (MV × List Int)
  | 0, m, p => some (m, p)
  | k + 1, m, p => bnd (runT own k m p) (fun m p => stepT own k m p)
theorem runF_bnd (own : Int) (k : Nat) (m : MV) (p : List Int) : runF own (k + 1) m p = bnd (runF own k m p) (fun m' p' => if hasB own k then takeF k m' p' else some (m', p')) := by
  show (match runF own k m p with | none => none | some (m', p') => if hasB own k then takeF k m' p' else some (m', p')) = _
  cases runF own k m p with
  | none => rfl
  | some r => rfl
theorem ptext_up {m M : Nat} (hm : m ≤ M) {p : List Int} {r : List Int × List Int} (h : ptext m p = some r) : ptext M p = some r := by
  unfold ptext at h ⊢
  split at h
  · cases h
  · split at h
    · rename_i hc
      rw [if_pos ⟨by omega, hc.2⟩]
      exact h
    · cases h
theorem ptext_dn {m M : Nat} {p t q : List Int} (h : ptext M p = some (t, q)) (hl : t.length ≤ m) : ptext m p = some (t, q) := by
  unfold ptext at h ⊢
  split at h
  · cases h
  · split at h
    · rename_i n q1 _ hc
      injection h with h
      injection h with h1 h2
      have : t.length = n.toNat := by rw [← h1, List.length_take]; omega
      rw [if_pos ⟨by omega, hc.2⟩, h1, h2]
    · cases h
theorem takeT_other {k : Nat} (h2 : k ≠ 2) (h9 : k ≠ 9) (m : MV) (p : List Int) : takeT k m p = takeF k m p := by
  unfold takeT
  split
  · exact absurd rfl h2
  · exact absurd rfl h9
  · rfl
theorem takeT_up {k : Nat} {m : MV} {p : List Int} {r : MV × List Int} (h : takeF k m p = some r) : takeT k m p = some r := by
  by_cases h2 : k = 2
  · subst h2
    obtain ⟨v, h3, h4⟩ := Option.map_eq_some_iff.1 (show (ptext 32 p).map _ = _ from h)
    show (ptext 1048576 p).map _ = _
    rw [ptext_up (by decide) h3, ← h4]
    rfl
  · by_cases h9 : k = 9
    · subst h9
      obtain ⟨v, h3, h4⟩ := Option.map_eq_some_iff.1 (show (ptext 64 p).map _ = _ from h)
      show (ptext 1048576 p).map _ = _
      rw [ptext_up (by decide) h3, ← h4]
      rfl
    · rw [takeT_other h2 h9, h]
theorem runT_up {own : Int} {m : MV} {p : List Int} : ∀ {k : Nat} {r : MV × List Int}, runF own k m p = some r → runT own k m p = some r
  | 0, r, h => h
  | k + 1, (m2, q2), h => by
    rw [runF_bnd] at h
    obtain ⟨m1, q1, h1, h2⟩ := bnd_of h
    show bnd (runT own k m p) _ = _
    rw [runT_up h1]
    show stepT own k m1 q1 = _
    unfold stepT
    split at h2
    · rename_i hb
      rw [if_pos hb]
      exact takeT_up h2
    · rename_i hb
      rw [if_neg hb]
      exact h2
theorem takeF_name {k : Nat} {m m' : MV} {p q : List Int} (h : takeF k m p = some (m', q)) : (k ≠ 2 → m'.name = m.name) ∧ (k ≠ 9 → m'.reason = m.reason) := by
  unfold takeF at h
  split at h
  all_goals (first
    | (obtain ⟨v, _, h4⟩ := Option.map_eq_some_iff.1 h; injection h4 with h4 _; rw [← h4]; exact ⟨fun _ => rfl, fun _ => rfl⟩)
    | (obtain ⟨v, _, h4⟩ := Option.map_eq_some_iff.1 h; injection h4 with h4 _; rw [← h4]; exact ⟨fun e => absurd rfl e, fun _ => rfl⟩)
    | (obtain ⟨v, _, h4⟩ := Option.map_eq_some_iff.1 h; injection h4 with h4 _; rw [← h4]; exact ⟨fun _ => rfl, fun e => absurd rfl e⟩)
    | (split at h
       · cases h
       · injection h with h; injection h with h _; rw [← h]; exact ⟨fun _ => rfl, fun _ => rfl⟩)
    | (split at h <;> (obtain ⟨v, _, h4⟩ := Option.map_eq_some_iff.1 h; injection h4 with h4 _; rw [← h4]; exact ⟨fun _ => rfl, fun _ => rfl⟩))
    | (injection h with h; injection h with h _; rw [← h]; exact ⟨fun _ => rfl, fun _ => rfl⟩))
theorem takeT_name {k : Nat} {m m' : MV} {p q : List Int} (h : takeT k m p = some (m', q)) : (k ≠ 2 → m'.name = m.name) ∧ (k ≠ 9 → m'.reason = m.reason) ∧ m'.kind = m.kind := by
  by_cases h2 : k = 2
  · subst h2
    obtain ⟨v, h3, h4⟩ := Option.map_eq_some_iff.1 (show (ptext 1048576 p).map _ = _ from h)
    injection h4 with h4 _
    rw [← h4]
    exact ⟨fun e => absurd rfl e, fun _ => rfl, rfl⟩
  · by_cases h9 : k = 9
    · subst h9
      obtain ⟨v, h3, h4⟩ := Option.map_eq_some_iff.1 (show (ptext 1048576 p).map _ = _ from h)
      injection h4 with h4 _
      rw [← h4]
      exact ⟨fun _ => rfl, fun e => absurd rfl e, rfl⟩
    · rw [takeT_other h2 h9] at h
      exact ⟨(takeF_name h).1, (takeF_name h).2, takeF_kind h⟩
theorem runT_facts {own kind : Int} {p : List Int} : ∀ {k : Nat} {m : MV} {q : List Int}, runT own k (mv0 kind) p = some (m, q) → (k ≤ 2 → m.name = []) ∧ (k ≤ 9 → m.reason = []) ∧ m.kind = kind
  | 0, m, q, h => by
    injection h with h
    injection h with h _
    rw [← h]
    exact ⟨fun _ => rfl, fun _ => rfl, rfl⟩
  | k + 1, m, q, h => by
    obtain ⟨m1, q1, h1, h2⟩ := bnd_of (show bnd (runT own k (mv0 kind) p) _ = _ from h)
    have ih := runT_facts h1
    unfold stepT at h2
    split at h2
    · have ht := takeT_name h2
      exact ⟨fun hk => by rw [ht.1 (by omega)]; exact ih.1 (by omega), fun hk => by rw [ht.2.1 (by omega)]; exact ih.2.1 (by omega), by rw [ht.2.2]; exact ih.2.2⟩
    · injection h2 with h2
      injection h2 with h2 _
      rw [← h2]
      exact ⟨fun hk => ih.1 (by omega), fun hk => ih.2.1 (by omega), ih.2.2⟩
theorem runT_kind {own kind : Int} {p : List Int} {k : Nat} {m : MV} {q : List Int} (h : runT own k (mv0 kind) p = some (m, q)) : m.kind = kind := (runT_facts h).2.2
theorem takeT_dn {k : Nat} {m m' : MV} {p q : List Int} (h : takeT k m p = some (m', q)) (hn : m'.name.length ≤ 32) (hr : m'.reason.length ≤ 64) : takeF k m p = some (m', q) := by
  by_cases h2 : k = 2
  · subst h2
    obtain ⟨v, h3, h4⟩ := Option.map_eq_some_iff.1 (show (ptext 1048576 p).map _ = _ from h)
    show (ptext 32 p).map _ = _
    have hv : v.1.length ≤ 32 := by injection h4 with h4 _; rw [← h4] at hn; exact hn
    rw [ptext_dn (m := 32) (t := v.1) (q := v.2) h3 hv, ← h4]
    rfl
  · by_cases h9 : k = 9
    · subst h9
      obtain ⟨v, h3, h4⟩ := Option.map_eq_some_iff.1 (show (ptext 1048576 p).map _ = _ from h)
      show (ptext 64 p).map _ = _
      have hv : v.1.length ≤ 64 := by injection h4 with h4 _; rw [← h4] at hr; exact hr
      rw [ptext_dn (m := 64) (t := v.1) (q := v.2) h3 hv, ← h4]
      rfl
    · rwa [takeT_other h2 h9] at h
theorem runT_dn {own kind : Int} {p : List Int} : ∀ {k : Nat} {m : MV} {q : List Int}, runT own k (mv0 kind) p = some (m, q) → m.name.length ≤ 32 → m.reason.length ≤ 64 → runF own k (mv0 kind) p = some (m, q)
  | 0, m, q, h, _, _ => h
  | k + 1, m, q, h, hn, hr => by
    obtain ⟨m1, q1, h1, h2⟩ := bnd_of (show bnd (runT own k (mv0 kind) p) _ = _ from h)
    have f1 := runT_facts h1
    rw [runF_bnd]
    unfold stepT at h2
    split at h2
    · rename_i hb
      have ht := takeT_name h2
      have n1 : m1.name.length ≤ 32 := by
        by_cases e : k = 2
        · rw [f1.1 (by omega)]; exact Nat.zero_le _
        · rw [← ht.1 e]; exact hn
      have r1 : m1.reason.length ≤ 64 := by
        by_cases e : k = 9
        · rw [f1.2.1 (by omega)]; exact Nat.zero_le _
        · rw [← ht.2.1 e]; exact hr
      rw [runT_dn h1 n1 r1]
      show (if hasB own k then takeF k m1 q1 else some (m1, q1)) = _
      rw [if_pos hb]
      exact takeT_dn h2 hn hr
    · rename_i hb
      injection h2 with h2
      injection h2 with h2 h3
      subst h2 h3
      rw [runT_dn h1 hn hr]
      show (if hasB own k then takeF k m1 q1 else some (m1, q1)) = _
      rw [if_neg hb]
theorem seven_3 {m : MV} {p : List Int} (h : m.kind = 3) : takeT 7 m p = rdC 103 m p := by
  show (if m.kind = 3 then _ else _) = _
  rw [if_pos h]
  rfl
theorem seven_e {m : MV} {p : List Int} (h : m.kind ≠ 3) : takeT 7 m p = rdC 101 m p := by
  show (if m.kind = 3 then _ else _) = _
  rw [if_neg h]
  rfl
theorem rk_3 (p : List Int) : rdR (shapeW 3) (mv0 3) p (shapeW 3).size = runT (foW 3) 13 (mv0 3) p := by
  have h1 : rdR (shapeW 3) (mv0 3) p (shapeW 3).size = bnd (bnd (bnd (bnd (bnd (bnd (bnd (some (mv0 3, p)) (rdC 105)) (rdC 97)) (rdC 116)) (rdC 112)) (rdC 111)) (rdC 115)) (rdC 103) := rfl
  rw [h1, show foW 3 = 223 by decide]
  have h7 : runT 223 13 (mv0 3) p = bnd (runT 223 7 (mv0 3) p) (rdC 103) := by
    have h8 : bnd (runT 223 7 (mv0 3) p) (rdC 103) = bnd (runT 223 7 (mv0 3) p) (fun m p => takeT 7 m p) := bnd_congr fun m q h => by
      have hk := runT_kind h
      exact (seven_3 hk).symm
    rw [h8]
    show bnd (bnd (bnd (bnd (bnd (bnd (runT 223 7 (mv0 3) p) (fun m p => stepT 223 7 m p)) (fun m p => stepT 223 8 m p)) (fun m p => stepT 223 9 m p)) (fun m p => stepT 223 10 m p)) (fun m p => stepT 223 11 m p)) (fun m p => stepT 223 12 m p) = _
    simp only [stepT, show hasB 223 7 = true by decide, show hasB 223 8 = false by decide, show hasB 223 9 = false by decide, show hasB 223 10 = false by decide, show hasB 223 11 = false by decide, show hasB 223 12 = false by decide, if_true, Bool.false_eq_true, if_false, bnd_some]
  rw [h7]
  simp only [runT, stepT, show hasB 223 0 = true by decide, show hasB 223 1 = true by decide, show hasB 223 2 = true by decide, show hasB 223 3 = true by decide, show hasB 223 4 = true by decide, show hasB 223 5 = false by decide, show hasB 223 6 = true by decide, if_true, Bool.false_eq_true, if_false, bnd_some]
  rfl
theorem rk_4 (p : List Int) : rdR (shapeW 4) (mv0 4) p (shapeW 4).size = runT (foW 4) 13 (mv0 4) p := by
  have h1 : rdR (shapeW 4) (mv0 4) p (shapeW 4).size = bnd (bnd (bnd (some (mv0 4, p)) (rdC 105)) (rdC 98)) (rdC 115) := rfl
  rw [h1, show foW 4 = 97 by decide]
  simp only [runT, stepT, show hasB 97 0 = true by decide, show hasB 97 1 = false by decide, show hasB 97 2 = false by decide, show hasB 97 3 = false by decide, show hasB 97 4 = false by decide, show hasB 97 5 = true by decide, show hasB 97 6 = true by decide, show hasB 97 7 = false by decide, show hasB 97 8 = false by decide, show hasB 97 9 = false by decide, show hasB 97 10 = false by decide, show hasB 97 11 = false by decide, show hasB 97 12 = false by decide, if_true, Bool.false_eq_true, if_false, bnd_some]
  rfl
theorem rk_5 (p : List Int) : rdR (shapeW 5) (mv0 5) p (shapeW 5).size = runT (foW 5) 13 (mv0 5) p := by
  have h1 : rdR (shapeW 5) (mv0 5) p (shapeW 5).size = bnd (bnd (bnd (some (mv0 5, p)) (rdC 105)) (rdC 99)) (rdC 114) := rfl
  rw [h1, show foW 5 = 769 by decide]
  simp only [runT, stepT, show hasB 769 0 = true by decide, show hasB 769 1 = false by decide, show hasB 769 2 = false by decide, show hasB 769 3 = false by decide, show hasB 769 4 = false by decide, show hasB 769 5 = false by decide, show hasB 769 6 = false by decide, show hasB 769 7 = false by decide, show hasB 769 8 = true by decide, show hasB 769 9 = true by decide, show hasB 769 10 = false by decide, show hasB 769 11 = false by decide, show hasB 769 12 = false by decide, if_true, Bool.false_eq_true, if_false, bnd_some]
  rfl
theorem rk_6 (p : List Int) : rdR (shapeW 6) (mv0 6) p (shapeW 6).size = runT (foW 6) 13 (mv0 6) p := by
  have h1 : rdR (shapeW 6) (mv0 6) p (shapeW 6).size = bnd (bnd (some (mv0 6, p)) (rdC 105)) (rdC 116) := rfl
  rw [h1, show foW 6 = 5 by decide]
  simp only [runT, stepT, show hasB 5 0 = true by decide, show hasB 5 1 = false by decide, show hasB 5 2 = true by decide, show hasB 5 3 = false by decide, show hasB 5 4 = false by decide, show hasB 5 5 = false by decide, show hasB 5 6 = false by decide, show hasB 5 7 = false by decide, show hasB 5 8 = false by decide, show hasB 5 9 = false by decide, show hasB 5 10 = false by decide, show hasB 5 11 = false by decide, show hasB 5 12 = false by decide, if_true, Bool.false_eq_true, if_false, bnd_some]
  rfl
theorem rk_7 (p : List Int) : rdR (shapeW 7) (mv0 7) p (shapeW 7).size = runT (foW 7) 13 (mv0 7) p := by
  have h1 : rdR (shapeW 7) (mv0 7) p (shapeW 7).size = bnd (some (mv0 7, p)) (rdC 105) := rfl
  rw [h1, show foW 7 = 1 by decide]
  simp only [runT, stepT, show hasB 1 0 = true by decide, show hasB 1 1 = false by decide, show hasB 1 2 = false by decide, show hasB 1 3 = false by decide, show hasB 1 4 = false by decide, show hasB 1 5 = false by decide, show hasB 1 6 = false by decide, show hasB 1 7 = false by decide, show hasB 1 8 = false by decide, show hasB 1 9 = false by decide, show hasB 1 10 = false by decide, show hasB 1 11 = false by decide, show hasB 1 12 = false by decide, if_true, Bool.false_eq_true, if_false, bnd_some]
  rfl
theorem rk_8 (p : List Int) : rdR (shapeW 8) (mv0 8) p (shapeW 8).size = runT (foW 8) 13 (mv0 8) p := by
  have h1 : rdR (shapeW 8) (mv0 8) p (shapeW 8).size = bnd (bnd (bnd (some (mv0 8, p)) (rdC 105)) (rdC 99)) (rdC 114) := rfl
  rw [h1, show foW 8 = 769 by decide]
  simp only [runT, stepT, show hasB 769 0 = true by decide, show hasB 769 1 = false by decide, show hasB 769 2 = false by decide, show hasB 769 3 = false by decide, show hasB 769 4 = false by decide, show hasB 769 5 = false by decide, show hasB 769 6 = false by decide, show hasB 769 7 = false by decide, show hasB 769 8 = true by decide, show hasB 769 9 = true by decide, show hasB 769 10 = false by decide, show hasB 769 11 = false by decide, show hasB 769 12 = false by decide, if_true, Bool.false_eq_true, if_false, bnd_some]
  rfl
theorem rk_9 (p : List Int) : rdR (shapeW 9) (mv0 9) p (shapeW 9).size = runT (foW 9) 13 (mv0 9) p := by
  have h1 : rdR (shapeW 9) (mv0 9) p (shapeW 9).size = bnd (some (mv0 9, p)) (rdC 116) := rfl
  rw [h1, show foW 9 = 4 by decide]
  simp only [runT, stepT, show hasB 4 0 = false by decide, show hasB 4 1 = false by decide, show hasB 4 2 = true by decide, show hasB 4 3 = false by decide, show hasB 4 4 = false by decide, show hasB 4 5 = false by decide, show hasB 4 6 = false by decide, show hasB 4 7 = false by decide, show hasB 4 8 = false by decide, show hasB 4 9 = false by decide, show hasB 4 10 = false by decide, show hasB 4 11 = false by decide, show hasB 4 12 = false by decide, if_true, Bool.false_eq_true, if_false, bnd_some]
  rfl
theorem rk_10 (p : List Int) : rdR (shapeW 10) (mv0 10) p (shapeW 10).size = runT (foW 10) 13 (mv0 10) p := by
  have h1 : rdR (shapeW 10) (mv0 10) p (shapeW 10).size = bnd (some (mv0 10, p)) (rdC 105) := rfl
  rw [h1, show foW 10 = 1 by decide]
  simp only [runT, stepT, show hasB 1 0 = true by decide, show hasB 1 1 = false by decide, show hasB 1 2 = false by decide, show hasB 1 3 = false by decide, show hasB 1 4 = false by decide, show hasB 1 5 = false by decide, show hasB 1 6 = false by decide, show hasB 1 7 = false by decide, show hasB 1 8 = false by decide, show hasB 1 9 = false by decide, show hasB 1 10 = false by decide, show hasB 1 11 = false by decide, show hasB 1 12 = false by decide, if_true, Bool.false_eq_true, if_false, bnd_some]
  rfl
theorem rk_11 (p : List Int) : rdR (shapeW 11) (mv0 11) p (shapeW 11).size = runT (foW 11) 13 (mv0 11) p := by
  have h1 : rdR (shapeW 11) (mv0 11) p (shapeW 11).size = bnd (bnd (bnd (some (mv0 11, p)) (rdC 105)) (rdC 99)) (rdC 114) := rfl
  rw [h1, show foW 11 = 769 by decide]
  simp only [runT, stepT, show hasB 769 0 = true by decide, show hasB 769 1 = false by decide, show hasB 769 2 = false by decide, show hasB 769 3 = false by decide, show hasB 769 4 = false by decide, show hasB 769 5 = false by decide, show hasB 769 6 = false by decide, show hasB 769 7 = false by decide, show hasB 769 8 = true by decide, show hasB 769 9 = true by decide, show hasB 769 10 = false by decide, show hasB 769 11 = false by decide, show hasB 769 12 = false by decide, if_true, Bool.false_eq_true, if_false, bnd_some]
  rfl
theorem rk_16 (p : List Int) : rdR (shapeW 16) (mv0 16) p (shapeW 16).size = runT (foW 16) 13 (mv0 16) p := by
  have h1 : rdR (shapeW 16) (mv0 16) p (shapeW 16).size = some (mv0 16, p) := rfl
  rw [h1, show foW 16 = 0 by decide]
  simp only [runT, stepT, show hasB 0 0 = false by decide, show hasB 0 1 = false by decide, show hasB 0 2 = false by decide, show hasB 0 3 = false by decide, show hasB 0 4 = false by decide, show hasB 0 5 = false by decide, show hasB 0 6 = false by decide, show hasB 0 7 = false by decide, show hasB 0 8 = false by decide, show hasB 0 9 = false by decide, show hasB 0 10 = false by decide, show hasB 0 11 = false by decide, show hasB 0 12 = false by decide, if_true, Bool.false_eq_true, if_false, bnd_some]

theorem rk_21 (p : List Int) : rdR (shapeW 21) (mv0 21) p (shapeW 21).size = runT (foW 21) 13 (mv0 21) p := by
  have h1 : rdR (shapeW 21) (mv0 21) p (shapeW 21).size = bnd (some (mv0 21, p)) (rdC 110) := rfl
  rw [h1, show foW 21 = 4096 by decide]
  simp only [runT, stepT, show hasB 4096 0 = false by decide, show hasB 4096 1 = false by decide, show hasB 4096 2 = false by decide, show hasB 4096 3 = false by decide, show hasB 4096 4 = false by decide, show hasB 4096 5 = false by decide, show hasB 4096 6 = false by decide, show hasB 4096 7 = false by decide, show hasB 4096 8 = false by decide, show hasB 4096 9 = false by decide, show hasB 4096 10 = false by decide, show hasB 4096 11 = false by decide, show hasB 4096 12 = true by decide, if_true, Bool.false_eq_true, if_false, bnd_some]
  rfl
theorem rk_22 (p : List Int) : rdR (shapeW 22) (mv0 22) p (shapeW 22).size = runT (foW 22) 13 (mv0 22) p := by
  have h1 : rdR (shapeW 22) (mv0 22) p (shapeW 22).size = bnd (bnd (bnd (bnd (bnd (some (mv0 22, p)) (rdC 105)) (rdC 116)) (rdC 112)) (rdC 115)) (rdC 101) := rfl
  rw [h1, show foW 22 = 205 by decide]
  have h7 : runT 205 13 (mv0 22) p = bnd (runT 205 7 (mv0 22) p) (rdC 101) := by
    have h8 : bnd (runT 205 7 (mv0 22) p) (rdC 101) = bnd (runT 205 7 (mv0 22) p) (fun m p => takeT 7 m p) := bnd_congr fun m q h => by
      have hk := runT_kind h
      exact (seven_e (by rw [hk]; decide)).symm
    rw [h8]
    show bnd (bnd (bnd (bnd (bnd (bnd (runT 205 7 (mv0 22) p) (fun m p => stepT 205 7 m p)) (fun m p => stepT 205 8 m p)) (fun m p => stepT 205 9 m p)) (fun m p => stepT 205 10 m p)) (fun m p => stepT 205 11 m p)) (fun m p => stepT 205 12 m p) = _
    simp only [stepT, show hasB 205 7 = true by decide, show hasB 205 8 = false by decide, show hasB 205 9 = false by decide, show hasB 205 10 = false by decide, show hasB 205 11 = false by decide, show hasB 205 12 = false by decide, if_true, Bool.false_eq_true, if_false, bnd_some]
  rw [h7]
  simp only [runT, stepT, show hasB 205 0 = true by decide, show hasB 205 1 = false by decide, show hasB 205 2 = true by decide, show hasB 205 3 = true by decide, show hasB 205 4 = false by decide, show hasB 205 5 = false by decide, show hasB 205 6 = true by decide, if_true, Bool.false_eq_true, if_false, bnd_some]
  rfl
theorem rk_23 (p : List Int) : rdR (shapeW 23) (mv0 23) p (shapeW 23).size = runT (foW 23) 13 (mv0 23) p := by
  have h1 : rdR (shapeW 23) (mv0 23) p (shapeW 23).size = bnd (some (mv0 23, p)) (rdC 105) := rfl
  rw [h1, show foW 23 = 1 by decide]
  simp only [runT, stepT, show hasB 1 0 = true by decide, show hasB 1 1 = false by decide, show hasB 1 2 = false by decide, show hasB 1 3 = false by decide, show hasB 1 4 = false by decide, show hasB 1 5 = false by decide, show hasB 1 6 = false by decide, show hasB 1 7 = false by decide, show hasB 1 8 = false by decide, show hasB 1 9 = false by decide, show hasB 1 10 = false by decide, show hasB 1 11 = false by decide, show hasB 1 12 = false by decide, if_true, Bool.false_eq_true, if_false, bnd_some]
  rfl
theorem rk_24 (p : List Int) : rdR (shapeW 24) (mv0 24) p (shapeW 24).size = runT (foW 24) 13 (mv0 24) p := by
  have h1 : rdR (shapeW 24) (mv0 24) p (shapeW 24).size = bnd (some (mv0 24, p)) (rdC 105) := rfl
  rw [h1, show foW 24 = 1 by decide]
  simp only [runT, stepT, show hasB 1 0 = true by decide, show hasB 1 1 = false by decide, show hasB 1 2 = false by decide, show hasB 1 3 = false by decide, show hasB 1 4 = false by decide, show hasB 1 5 = false by decide, show hasB 1 6 = false by decide, show hasB 1 7 = false by decide, show hasB 1 8 = false by decide, show hasB 1 9 = false by decide, show hasB 1 10 = false by decide, show hasB 1 11 = false by decide, show hasB 1 12 = false by decide, if_true, Bool.false_eq_true, if_false, bnd_some]
  rfl
theorem rk_25 (p : List Int) : rdR (shapeW 25) (mv0 25) p (shapeW 25).size = runT (foW 25) 13 (mv0 25) p := by
  have h1 : rdR (shapeW 25) (mv0 25) p (shapeW 25).size = bnd (bnd (bnd (some (mv0 25, p)) (rdC 105)) (rdC 99)) (rdC 114) := rfl
  rw [h1, show foW 25 = 769 by decide]
  simp only [runT, stepT, show hasB 769 0 = true by decide, show hasB 769 1 = false by decide, show hasB 769 2 = false by decide, show hasB 769 3 = false by decide, show hasB 769 4 = false by decide, show hasB 769 5 = false by decide, show hasB 769 6 = false by decide, show hasB 769 7 = false by decide, show hasB 769 8 = true by decide, show hasB 769 9 = true by decide, show hasB 769 10 = false by decide, show hasB 769 11 = false by decide, show hasB 769 12 = false by decide, if_true, Bool.false_eq_true, if_false, bnd_some]
  rfl
theorem rk_32 (p : List Int) : rdR (shapeW 32) (mv0 32) p (shapeW 32).size = runT (foW 32) 13 (mv0 32) p := by
  have h1 : rdR (shapeW 32) (mv0 32) p (shapeW 32).size = bnd (bnd (some (mv0 32, p)) (rdC 108)) (rdC 110) := rfl
  rw [h1, show foW 32 = 5120 by decide]
  simp only [runT, stepT, show hasB 5120 0 = false by decide, show hasB 5120 1 = false by decide, show hasB 5120 2 = false by decide, show hasB 5120 3 = false by decide, show hasB 5120 4 = false by decide, show hasB 5120 5 = false by decide, show hasB 5120 6 = false by decide, show hasB 5120 7 = false by decide, show hasB 5120 8 = false by decide, show hasB 5120 9 = false by decide, show hasB 5120 10 = true by decide, show hasB 5120 11 = false by decide, show hasB 5120 12 = true by decide, if_true, Bool.false_eq_true, if_false, bnd_some]
  rfl
theorem rk_33 (p : List Int) : rdR (shapeW 33) (mv0 33) p (shapeW 33).size = runT (foW 33) 13 (mv0 33) p := by
  have h1 : rdR (shapeW 33) (mv0 33) p (shapeW 33).size = bnd (bnd (some (mv0 33, p)) (rdC 118)) (rdC 110) := rfl
  rw [h1, show foW 33 = 6144 by decide]
  simp only [runT, stepT, show hasB 6144 0 = false by decide, show hasB 6144 1 = false by decide, show hasB 6144 2 = false by decide, show hasB 6144 3 = false by decide, show hasB 6144 4 = false by decide, show hasB 6144 5 = false by decide, show hasB 6144 6 = false by decide, show hasB 6144 7 = false by decide, show hasB 6144 8 = false by decide, show hasB 6144 9 = false by decide, show hasB 6144 10 = false by decide, show hasB 6144 11 = true by decide, show hasB 6144 12 = true by decide, if_true, Bool.false_eq_true, if_false, bnd_some]
  rfl
theorem letters_run {k : Int} (hk : knW k = true) (p : List Int) : rdR (shapeW k) (mv0 k) p (shapeW k).size = runT (foW k) 13 (mv0 k) p := by
  have hin : k ∈ kindsW := by simpa [knW] using hk
  simp only [kindsW, List.mem_cons, List.not_mem_nil, or_false] at hin
  rcases hin with rfl | rfl | rfl | rfl | rfl | rfl | rfl | rfl | rfl | rfl | rfl | rfl | rfl | rfl | rfl | rfl | rfl
  · exact rk_3 p
  · exact rk_4 p
  · exact rk_5 p
  · exact rk_6 p
  · exact rk_7 p
  · exact rk_8 p
  · exact rk_9 p
  · exact rk_10 p
  · exact rk_11 p
  · exact rk_16 p
  · exact rk_21 p
  · exact rk_22 p
  · exact rk_23 p
  · exact rk_24 p
  · exact rk_25 p
  · exact rk_32 p
  · exact rk_33 p
def parseR (kind : Int) (p : List Int) : Option MV :=
  match rdR (shapeW kind) (mv0 kind) p (shapeW kind).size with
  | none => none
  | some (m, q) => if q.isEmpty && rightM m then some m else none
theorem parseR_eq {k : Int} (hk : knW k = true) (p : List Int) : parseR k p = parseW k p := by
  unfold parseR parseW
  rw [letters_run hk]
  cases hT : runT (foW k) 13 (mv0 k) p with
  | none =>
    cases hF : runF (foW k) 13 (mv0 k) p with
    | none => rfl
    | some r => rw [runT_up hF] at hT; cases hT
  | some r =>
    obtain ⟨m, q⟩ := r
    by_cases hl : m.name.length ≤ 32 ∧ m.reason.length ≤ 64
    · rw [runT_dn hT hl.1 hl.2]
      simp only [right_valid]
    · have hv : validB m = false := by
        rw [Bool.eq_false_iff]
        intro e
        have := valid_lens e
        exact hl ⟨this.1, this.2.1⟩
      simp only [right_valid, hv, Bool.and_false, Bool.false_eq_true, if_false]
      cases hF : runF (foW k) 13 (mv0 k) p with
      | none => rfl
      | some r =>
        have := runT_up hF
        rw [hT] at this
        injection this with this
        rw [← this]
        simp [hv]
/-- What the reference reads. -/
def readR (p : List Int) : Except Int (MV × List Int) :=
  match pnum p with
  | none => .error 2
  | some (k, q) => if knW k then
      match q with
      | a :: b :: r => if r.length < (256 * a + b).toNat then .error 2 else match parseR k (r.take (256 * a + b).toNat) with
        | none => .error 4
        | some m => .ok (m, r.drop (256 * a + b).toNat)
      | _ => .error 2
    else .error 4
theorem readR_eq (p : List Int) : readR p = readW p := by
  unfold readR readW
  cases pnum p with
  | none => rfl
  | some r =>
    obtain ⟨k, q⟩ := r
    simp only
    by_cases hk : knW k = true
    · rw [if_pos hk, if_pos hk]
      match q with
      | [] => rfl
      | [_] => rfl
      | a :: b :: r =>
        simp only [parseR_eq hk]
        rfl
    · rw [if_neg hk, if_neg hk]
end Go.Proofs.YtfedofoadfipcaaDoor
