/-
  The reference's Bytes (made by mkWrdE.py).
-/
import Derived.Test.YtfedofoadfipcaaDoorWrdD
import Derived.Deep.RegionHeld
import Derived.Deep.MidRow
namespace Go.Proofs.YtfedofoadfipcaaDoor
open Go.RowKit
set_option linter.unusedVariables false
set_option linter.unusedSimpArgs false
/-- What a letter writes. -/
def bytC (c : Nat) (m : MV) : List Int :=
  match c with
  | 105 => vencs [m.id]
  | 97 => vencs [m.alias_]
  | 116 => vtext m.name
  | 112 => [m.prio]
  | 111 => [m.ord]
  | 115 => vencs [m.sg, m.so]
  | 101 => vencs [m.eg, m.eo]
  | 103 => vencs [m.eg]
  | 98 => [bitI m.some_]
  | 99 => vencs [m.code]
  | 114 => vtext m.reason
  | 110 => vencs [m.n]
  | 118 => vencs [m.ver]
  | 108 => vencs [(m.vers.length : Int)] ++ vencs m.vers
  | _ => []
def bytR (s : ByteArray) (m : MV) : Nat → List Int
  | 0 => []
  | j + 1 => bytR s m j ++ bytC (chW s j) m
def bytM (m : MV) : List Int := bytR (shapeW m.kind) m (shapeW m.kind).size
def refB (m : MV) : List Int := vencs [m.kind] ++ ([((bytM m).length : Int) / 256, ((bytM m).length : Int) % 256] ++ bytM m)
/-- The numbers of a message that is right are within the bounds. -/
structure InM (m : MV) : Prop where
  id : InR m.id
  alias_ : InR m.alias_
  sg : InR m.sg
  so : InR m.so
  eg : InR m.eg
  eo : InR m.eo
  code : InR m.code
  n : InR m.n
  ver : InR m.ver
  kind : InR m.kind
  vers : ∀ x ∈ m.vers, 0 ≤ x ∧ x < 4611686018427387904
theorem lit1W (w : World) (a : Int) : OwnV (w.alloc (.cells #[.int .u64 a] 22)) w.heap.size 22 1 (some ⟨w.heap.size, 0, none⟩) 1 [a].length (IV .u64 [a]) :=
  Blk.own (Blk.new w 22 #[.int .u64 a]) (Nat.le_refl _) (by simp [maxLen]) rfl
theorem lit2W (w : World) (a b : Int) : OwnV (w.alloc (.cells #[.int .u64 a, .int .u64 b] 22)) w.heap.size 22 1 (some ⟨w.heap.size, 0, none⟩) 2 [a, b].length (IV .u64 [a, b]) :=
  Blk.own (Blk.new w 22 #[.int .u64 a, .int .u64 b]) (Nat.le_refl _) (by simp [maxLen]) rfl
theorem own_lit2E (w : World) (x y : Int) {base : Nat} (hb : base ≤ w.heap.size) : Own (w.alloc (.cells #[.int .u8 x, .int .u8 y] 5)) base (some ⟨w.heap.size, 0, none⟩) 2 [x, y] :=
  Own.new (l := [x, y]) (Blk.new w _ _) hb (by simp [maxLen])
theorem bytC_len {m : MV} (h : InM m) (h1 : m.name.length ≤ 900) (h2 : m.reason.length ≤ 900) (h3 : m.vers.length ≤ 12) (c : Nat) : (bytC c m).length ≤ 1000 := by
  have one : ∀ {x : Int}, InR x → (vencs [x]).length ≤ 8 := fun hx => by
    have := vencs_len (l := [_]) (by intro y hy; simp at hy; subst hy; exact hx)
    simpa using this
  have two : ∀ {x y : Int}, InR x → InR y → (vencs [x, y]).length ≤ 16 := fun hx hy => by
    have := vencs_len (l := [_, _]) (by intro z hz; simp at hz; rcases hz with rfl | rfl; exact hx; exact hy)
    simpa using this
  unfold bytC
  split
  · exact Nat.le_trans (one h.id) (by decide)
  · exact Nat.le_trans (one h.alias_) (by decide)
  · exact Nat.le_trans (vtext_len h1) (by decide)
  · exact Nat.le_of_ble_eq_true rfl
  · exact Nat.le_of_ble_eq_true rfl
  · exact Nat.le_trans (two h.sg h.so) (by decide)
  · exact Nat.le_trans (two h.eg h.eo) (by decide)
  · exact Nat.le_trans (one h.eg) (by decide)
  · exact Nat.le_of_ble_eq_true rfl
  · exact Nat.le_trans (one h.code) (by decide)
  · exact Nat.le_trans (vtext_len h2) (by decide)
  · exact Nat.le_trans (one h.n) (by decide)
  · exact Nat.le_trans (one h.ver) (by decide)
  · rw [List.length_append]
    have a := one (x := (m.vers.length : Int)) ⟨by omega, by omega⟩
    have b := vencs_len h.vers
    omega
  · exact Nat.zero_le _
theorem bytR_len {s : ByteArray} {m : MV} (h : InM m) (h1 : m.name.length ≤ 900) (h2 : m.reason.length ≤ 900) (h3 : m.vers.length ≤ 12) : ∀ j, (bytR s m j).length ≤ 1000 * j
  | 0 => Nat.le_refl _
  | j + 1 => by
    have a := bytR_len (s := s) h h1 h2 h3 j
    have b := bytC_len h h1 h2 h3 (chW s j)
    unfold bytR
    rw [List.length_append]
    omega
theorem shape_size (k : Int) : (shapeW k).size ≤ 10 := by
  unfold shapeW
  (repeat' split) <;> decide
theorem step_appW {ops : Array Oper} {o : Oper} {a : Act} {w : World} {K : Act → World → Prop} {Q : Exit → Act → World → Prop} (hgd : o.guard = none) (s x : Operand)
    (ho : o.op = .call { callee := .builtin .append, args := #[s, x], argTypes := #[23, 23] })
    (base : Nat) {c d : Nat} {A B : Option Addr} {l news : List Int} (X : List Int) (hX : X = l ++ news) (hs : a.eval s = .slice A l.length c) (hx : a.eval x = .slice B news.length d) (hown : Own w base A c l) (hr : Rd w B news)
    (hlen : l.length + news.length ≤ 70368744177664) (hbase : base ≤ w.heap.size)
    (h : ∀ A' c' w', Own w' base A' c' X → Below base w w' → K (a.put o.dst (.slice A' X.length c')) w') :
    if Region.wanted o (yielded ops a.tmps) = true then Oper.wp Tryd.prog o a w K Q else K (a.put o.dst undef) w := by
  subst hX
  refine step_appV hgd s x 23 5 1 1 (.int .u8 0) ho Tryd.underlying23 info_u8 rfl (by omega) base hs hx hown hr (by intro u hu; simp only [U8, List.mem_map] at hu; obtain ⟨x, _, rfl⟩ := hu; rfl) (by unfold maxLen; omega) (by omega) hbase ?_
  intro A' c' w' h1 h2 h3 _
  have := h A' c' w' (by unfold Own; rw [show U8 (l ++ news) = U8 l ++ U8 news by simp [U8], List.length_append]; exact h1) h3
  rwa [List.length_append] at this
structure BytI (w wr : World) (B0 gi : Nat) (s : ByteArray) (m : MV) (F : Nat → List Int) (nA : Option Addr) (nc : Nat) (rA : Option Addr) (rc : Nat) (vA : Option Addr) (vc : Nat) (A : Option Addr) (c : Nat) (pos : Nat) : Prop where
  own : Own wr B0 A c (F pos)
  km : Blk wr w.heap.size 28 (mvC m nA nc rA rc vA vc)
  it : It wr gi s pos
  bel : Below w.heap.size w wr
  z : B0 ≤ wr.heap.size
  le : pos ≤ s.size
/-- What the reference's Bytes answers. -/
structure RBytesTo (w w' : World) (m : MV) (r : Ending) : Prop where
  ok : rightM m = true → ∃ A' c', r = .returned (.tuple #[.slice A' (refB m).length c', .int .i64 0]) ∧ Own w' w.heap.size A' c' (refB m)
  no : rightM m = false → r = .returned (.tuple #[.slice none 0 0, .int .i64 4])
  bel : Below w.heap.size w w'
set_option maxRecDepth 100000 in
set_option maxHeartbeats 6400000 in
theorem refBytesW_any (m : MV) (nA : Option Addr) (nc : Nat) (rA : Option Addr) (rc : Nat) (vA : Option Addr) (vc : Nat) (w : World) (hn : Rd w nA m.name) (hr : Rd w rA m.reason) (hv : RdI .u64 w vA m.vers)
    (y1 : Bytes m.name) (y2 : Bytes m.reason) (h1 : m.name.length ≤ 900) (h2 : m.reason.length ≤ 900) (h3 : m.vers.length ≤ 12) (hin : rightM m = true → InM m) :
    Calls Tryd.prog 12 #[.agg (mvC m nA nc rA rc vA vc)] w fun r w' => RBytesTo w w' m r := by
  obtain ⟨W, hW⟩ : ∃ W, W = w.alloc (.cells #[.int .u64 m.kind, .int .u64 m.id, .int .u64 m.alias_, .slice nA m.name.length nc, .int .u8 m.prio, .int .u8 m.ord, .int .u64 m.sg, .int .u64 m.so, .int .u64 m.eg, .int .u64 m.eo, .bool m.some_, .int .u64 m.code, .slice rA m.reason.length rc, .int .u64 m.n, .int .u64 m.ver, .slice vA m.vers.length vc] 28) := ⟨_, rfl⟩
  have KM := Lib.hid (show Blk W w.heap.size 28 (mvC m nA nc rA rc vA vc) by rw [hW]; exact Blk.new _ _ _)
  have bw : Below w.heap.size w W := by rw [hW]; exact (Below.refl _ _).alloc (Nat.le_refl _) _
  have BM := Lib.hid bw
  have HRD := Lib.hid (And.intro hn (And.intro hr hv))
  have CR := Lib.hid (refRight_any m nA nc rA rc vA vc W (Rd.below hn bw) (Rd.below hr bw) (RdI.below hv bw) y1 y2 (by omega) (by omega) (by omega))
  obtain ⟨P0, hP0⟩ : ∃ P0 : World → Ending → Prop, P0 = fun w' r => RBytesTo w w' m r := ⟨_, rfl⟩
  have HP := Lib.hid hP0
  rw [show (fun r w' => RBytesTo w w' m r) = fun r w' => P0 w' r by rw [hP0]]
  obtain ⟨rt, hrt⟩ : ∃ rt, rt = rightM m := ⟨_, rfl⟩
  rw [← hrt] at CR hin
  have HRT := Lib.hid hrt
  have HIN0 := Lib.hid hin
  obtain ⟨s, hs⟩ : ∃ s, s = shapeW m.kind := ⟨_, rfl⟩
  have CS := Lib.hid (fun W' => refShape_any m.kind W')
  rw [← hs] at CS
  have HL := Lib.hid (show ∀ (j : Nat) (h : j < s.size), (s[j]'h).toNat ∈ lettersW by rw [hs]; exact shape_letters m.kind)
  have hs10 : s.size ≤ 10 := by rw [hs]; exact shape_size m.kind
  have HSS := Lib.hid hs
  have HW := Lib.hid hW
  unfold mvC
  clear hW hP0 hrt hs hn hr hv y1 y2 bw hin
  go_enter Tryd.func12, Tryd.ntmps12
  go_wp2_with fail
  rw [← HW.out]
  refine CR.out.mono ?_
  rintro e wq ⟨rfl, b1⟩
  have KM1 := Lib.hid (KM.out.below b1 KM.out.lt)
  have BM1 := Lib.hid (BM.out.trans (b1.mono BM.out.size))
  clear b1 KM BM CR HW
  have km := KM1.out
  have zm := km.lt
  have d0 := km.cell 0
  simp only [mvC, List.getElem?_toArray, List.getElem?_cons_zero, List.getElem?_cons_succ] at d0
  clear km
  cases rt with
  | false =>
    go_wp2_with fail
    rw [HP.out]
    exact ⟨fun h => (by rw [← HRT.out] at h; cases h), fun _ => rfl, BM1.out⟩
  | true =>
    have HIN := Lib.hid (HIN0.out rfl)
    go_wp2_with fail
    refine (CS.out wq).mono ?_
    rintro e w0 ⟨rfl, hh⟩
    subst hh
    clear CS
    obtain ⟨gi, hgi⟩ : ∃ g, g = wq.heap.size := ⟨_, rfl⟩
    obtain ⟨B0, hB0⟩ : ∃ B, B = gi + 1 := ⟨_, rfl⟩
    have HGI := Lib.hid hgi
    have HORD := Lib.hid (show w.heap.size < gi ∧ B0 = gi + 1 from ⟨by rw [hgi]; exact zm, hB0⟩)
    obtain ⟨F, hF⟩ : ∃ F, F = bytR s m := ⟨_, rfl⟩
    have HF0 := Lib.hid (show F 0 = [] by rw [hF]; rfl)
    have HFS := Lib.hid (show ∀ j, F (j + 1) = F j ++ bytC (chW s j) m by rw [hF]; intro j; rfl)
    have HFL := Lib.hid (show ∀ j, j ≤ s.size → (F j).length ≤ 10000 by rw [hF]; intro j hj; have := bytR_len (s := s) HIN.out h1 h2 h3 j; omega)
    have HVL := Lib.hid (fun c => bytC_len HIN.out h1 h2 h3 c)
    have HFE := Lib.hid (show F s.size = bytM m by rw [hF, HSS.out]; rfl)
    have I0 := Lib.hid (show BytI w (wq.iter s 0) B0 gi s m F nA nc rA rc vA vc none 0 0 from ⟨by rw [HF0.out]; exact Own.nil _ _, KM1.out.below (iter_below wq s 0) zm, by rw [hgi]; exact It.new wq s, BM1.out.trans ((iter_below wq s 0).mono BM1.out.size), by rw [hB0, hgi]; simp [World.iter], Nat.zero_le _⟩)
    clear hgi hB0 hF KM1 BM1 d0 zm
    go_wp2_with fail
    go_loopw [4] (fun pv wr => ∃ (pos : Nat) (A : Option Addr) (c : Nat), pv = .slice A (F pos).length c ∧ Hid (BytI w wr B0 gi s m F nA nc rA rc vA vc A c pos)) (fun _ wr => s.size - wr.iterPos gi)
    case atStart => exact ⟨0, none, 0, by rw [HF0.out]; rfl, I0⟩
    case round =>
      obtain ⟨pos, A, c, rfl, HI⟩ := hrel
      rename World => wr
      by_cases hlt : pos < s.size
      · have hin := HL.out pos hlt
        obtain ⟨w1, hw1⟩ : ∃ w1, w1 = itSet wr gi s (pos + 1) := ⟨_, rfl⟩
        obtain ⟨ch, hch⟩ : ∃ ch, ch = (s[pos]'hlt).toNat := ⟨_, rfl⟩
        have ha : (s[pos]'hlt).toNat < 128 := by
          have : ∀ c ∈ lettersW, c < 128 := by decide
          exact this _ hin
        have hnx : ∀ ty, (Instr.next (.pointer (some ⟨wq.heap.size, 0, none⟩)) true ty).run Tryd.prog wr = .ok (.tuple #[.bool true, .int .i64 pos, .int .i32 ch]) w1 := fun ty => by
          rw [hch, hw1, HGI.out]
          exact run_next_it wr wq.heap.size s pos ty (by rw [← HGI.out]; exact HI.out.it) hlt ha
        have G1 : wr.grownBy w1 (some gi) := by rw [hw1]; exact itSet_grown wr gi s (pos + 1)
        have hord := HORD.out
        have K1M := Lib.hid (HI.out.km.grown G1 (fun e => by injection e with e; omega))
        have I1 := Lib.hid (show It w1 gi s (pos + 1) by rw [hw1]; exact itSet_it HI.out.it _)
        have B1 := Lib.hid (below_gsW HI.out.bel G1 (by omega) HI.out.bel.size)
        have P1 := Lib.hid (show Own w1 B0 A c (F pos) from OwnV.apart (show OwnV wr B0 5 1 A c (F pos).length (U8 (F pos)) from HI.out.own) G1 (fun kk hk e => by injection e with e; have := OwnV.row_ge (show OwnV wr B0 5 1 A c (F pos).length (U8 (F pos)) from HI.out.own) kk hk; omega))
        have hz1 : B0 ≤ w1.heap.size := Nat.le_trans HI.out.z G1.size
        have HGB := Lib.hid (show w.heap.size ≤ B0 ∧ B0 ≤ w1.heap.size ∧ w.heap.size < B0 ∧ gi < B0 from ⟨by omega, hz1, by omega, by omega⟩)
        have HM0 := Lib.hid (iterPos_it HI.out.it)
        have HC := Lib.hid (show chW s pos = ch by unfold chW; rw [dif_pos hlt, hch])
        have hPl := HFL.out pos (Nat.le_of_lt hlt)
        obtain ⟨P, hP⟩ : ∃ P, P = F pos := ⟨_, rfl⟩
        rw [← hP] at P1 hPl ⊢
        have HPE := Lib.hid hP.symm
        have zm := K1M.out.lt
        rw [← hch] at hin
        clear hch hw1 ha HI I0 G1 hord hz1 hP
        simp only [lettersW, List.mem_cons, List.not_mem_nil, or_false] at hin
        rcases hin with rfl | rfl | rfl | rfl | rfl | rfl | rfl | rfl | rfl | rfl | rfl | rfl | rfl | rfl | rfl
        · -- 105
          rw [show ((105 : Nat) : Int) = 105 from rfl] at hnx
          obtain ⟨V, hV⟩ : ∃ V, V = bytC 105 m := ⟨_, rfl⟩
          obtain ⟨X, hX⟩ : ∃ X, X = F (pos + 1) := ⟨_, rfl⟩
          have HX := Lib.hid (show X = P ++ V by rw [hX, HFS.out pos, HC.out, HPE.out, hV])
          have HXE := Lib.hid hX.symm
          have hVl : V.length ≤ 1000 := by rw [hV]; exact HVL.out 105
          have m1 := K1M.out.cell 1
          simp only [mvC, List.getElem?_toArray, List.getElem?_cons_zero, List.getElem?_cons_succ] at m1
          have CN : Calls Tryd.prog 29 #[.slice (some ⟨w1.heap.size, 0, none⟩) 1 1] (w1.alloc (.cells #[.int .u64 m.id] 22)) fun r w' => ∃ A' c', r = .returned (.slice A' V.length c') ∧ Own w' (w1.alloc (.cells #[.int .u64 m.id] 22)).heap.size A' c' V ∧ Below (w1.alloc (.cells #[.int .u64 m.id] 22)).heap.size (w1.alloc (.cells #[.int .u64 m.id] 22)) w' := by
            rw [hV]
            exact refNums_any (some ⟨w1.heap.size, 0, none⟩) 1 [m.id] _ (OwnV.reads (lit1W w1 m.id)) (Nat.le_of_ble_eq_true rfl) (by intro x hx; simp at hx; subst hx <;> first | exact HIN.out.id | exact HIN.out.id)
          have CN2 := Lib.hid CN
          clear hV hX CN
          go_wp2_with fail
          refine CN2.out.mono ?_
          rintro e w2 ⟨A2, c2, rfl, o2, b2⟩
          have bal := ((Below.refl w1.heap.size w1).alloc (Nat.le_refl _) (.cells #[.int .u64 m.id] 22)).trans (b2.mono (by simp))
          have RV := Lib.hid (Rd.of_own o2)
          have P2 := Lib.hid (Own.below P1.out bal)
          have B2 := Lib.hid (bal.mono HGB.out.2.1)
          clear o2 b2 bal CN2
          go_wp2_with (at_builtin
                       go_must (refine wpList_appW rfl (.tmp 21) (.tmp 25) rfl B0 (l := P) (news := V) X HX.out rfl rfl P2.out RV.out (by omega) (Nat.le_trans HGB.out.2.1 B2.out.size) ?_)
                       intro A3 c3 w3 o3 g3 b3
                       have O3 := Lib.hid o3
                       have B3 := Lib.hid (B2.out.trans b3)
                       clear o3 g3 b3)
          go_roundw
          case rel => exact ⟨pos + 1, A3, c3, by rw [HXE.out], Lib.hid ⟨by rw [HXE.out]; exact O3.out, K1M.out.below B3.out HGB.out.2.2.1, I1.out.below B3.out HGB.out.2.2.2, B1.out.trans (B3.out.mono HGB.out.1), Nat.le_trans HGB.out.2.1 B3.out.size, hlt⟩⟩
          case measure =>
            rw [HM0.out, iterPos_it (I1.out.below B3.out HGB.out.2.2.2)]
            omega
        · -- 97
          rw [show ((97 : Nat) : Int) = 97 from rfl] at hnx
          obtain ⟨V, hV⟩ : ∃ V, V = bytC 97 m := ⟨_, rfl⟩
          obtain ⟨X, hX⟩ : ∃ X, X = F (pos + 1) := ⟨_, rfl⟩
          have HX := Lib.hid (show X = P ++ V by rw [hX, HFS.out pos, HC.out, HPE.out, hV])
          have HXE := Lib.hid hX.symm
          have hVl : V.length ≤ 1000 := by rw [hV]; exact HVL.out 97
          have m2 := K1M.out.cell 2
          simp only [mvC, List.getElem?_toArray, List.getElem?_cons_zero, List.getElem?_cons_succ] at m2
          have CN : Calls Tryd.prog 29 #[.slice (some ⟨w1.heap.size, 0, none⟩) 1 1] (w1.alloc (.cells #[.int .u64 m.alias_] 22)) fun r w' => ∃ A' c', r = .returned (.slice A' V.length c') ∧ Own w' (w1.alloc (.cells #[.int .u64 m.alias_] 22)).heap.size A' c' V ∧ Below (w1.alloc (.cells #[.int .u64 m.alias_] 22)).heap.size (w1.alloc (.cells #[.int .u64 m.alias_] 22)) w' := by
            rw [hV]
            exact refNums_any (some ⟨w1.heap.size, 0, none⟩) 1 [m.alias_] _ (OwnV.reads (lit1W w1 m.alias_)) (Nat.le_of_ble_eq_true rfl) (by intro x hx; simp at hx; subst hx <;> first | exact HIN.out.alias_ | exact HIN.out.alias_)
          have CN2 := Lib.hid CN
          clear hV hX CN
          go_wp2_with fail
          refine CN2.out.mono ?_
          rintro e w2 ⟨A2, c2, rfl, o2, b2⟩
          have bal := ((Below.refl w1.heap.size w1).alloc (Nat.le_refl _) (.cells #[.int .u64 m.alias_] 22)).trans (b2.mono (by simp))
          have RV := Lib.hid (Rd.of_own o2)
          have P2 := Lib.hid (Own.below P1.out bal)
          have B2 := Lib.hid (bal.mono HGB.out.2.1)
          clear o2 b2 bal CN2
          go_wp2_with (at_builtin
                       go_must (refine wpList_appW rfl (.tmp 29) (.tmp 33) rfl B0 (l := P) (news := V) X HX.out rfl rfl P2.out RV.out (by omega) (Nat.le_trans HGB.out.2.1 B2.out.size) ?_)
                       intro A3 c3 w3 o3 g3 b3
                       have O3 := Lib.hid o3
                       have B3 := Lib.hid (B2.out.trans b3)
                       clear o3 g3 b3)
          go_roundw
          case rel => exact ⟨pos + 1, A3, c3, by rw [HXE.out], Lib.hid ⟨by rw [HXE.out]; exact O3.out, K1M.out.below B3.out HGB.out.2.2.1, I1.out.below B3.out HGB.out.2.2.2, B1.out.trans (B3.out.mono HGB.out.1), Nat.le_trans HGB.out.2.1 B3.out.size, hlt⟩⟩
          case measure =>
            rw [HM0.out, iterPos_it (I1.out.below B3.out HGB.out.2.2.2)]
            omega
        · -- 116
          rw [show ((116 : Nat) : Int) = 116 from rfl] at hnx
          obtain ⟨V, hV⟩ : ∃ V, V = bytC 116 m := ⟨_, rfl⟩
          obtain ⟨X, hX⟩ : ∃ X, X = F (pos + 1) := ⟨_, rfl⟩
          have HX := Lib.hid (show X = P ++ V by rw [hX, HFS.out pos, HC.out, HPE.out, hV])
          have HXE := Lib.hid hX.symm
          have hVl : V.length ≤ 1000 := by rw [hV]; exact HVL.out 116
          have m3 := K1M.out.cell 3
          simp only [mvC, List.getElem?_toArray, List.getElem?_cons_zero, List.getElem?_cons_succ] at m3
          have CN : Calls Tryd.prog 30 #[.slice nA m.name.length nc] w1 fun r w' => ∃ A' c', r = .returned (.slice A' V.length c') ∧ Own w' w1.heap.size A' c' V ∧ Below w1.heap.size w1 w' := by
            rw [hV]
            exact refTextW nA nc m.name w1 (Rd.below HRD.out.1 B1.out) (by omega)
          have CN2 := Lib.hid CN
          clear hV hX CN
          go_wp2_with fail
          refine CN2.out.mono ?_
          rintro e w2 ⟨A2, c2, rfl, o2, bal⟩
          have RV := Lib.hid (Rd.of_own o2)
          have P2 := Lib.hid (Own.below P1.out bal)
          have B2 := Lib.hid (bal.mono HGB.out.2.1)
          clear o2 bal CN2
          go_wp2_with (at_builtin
                       go_must (refine wpList_appW rfl (.tmp 37) (.tmp 40) rfl B0 (l := P) (news := V) X HX.out rfl rfl P2.out RV.out (by omega) (Nat.le_trans HGB.out.2.1 B2.out.size) ?_)
                       intro A3 c3 w3 o3 g3 b3
                       have O3 := Lib.hid o3
                       have B3 := Lib.hid (B2.out.trans b3)
                       clear o3 g3 b3)
          go_roundw
          case rel => exact ⟨pos + 1, A3, c3, by rw [HXE.out], Lib.hid ⟨by rw [HXE.out]; exact O3.out, K1M.out.below B3.out HGB.out.2.2.1, I1.out.below B3.out HGB.out.2.2.2, B1.out.trans (B3.out.mono HGB.out.1), Nat.le_trans HGB.out.2.1 B3.out.size, hlt⟩⟩
          case measure =>
            rw [HM0.out, iterPos_it (I1.out.below B3.out HGB.out.2.2.2)]
            omega
        · -- 112
          rw [show ((112 : Nat) : Int) = 112 from rfl] at hnx
          obtain ⟨V, hV⟩ : ∃ V, V = bytC 112 m := ⟨_, rfl⟩
          obtain ⟨X, hX⟩ : ∃ X, X = F (pos + 1) := ⟨_, rfl⟩
          have HX := Lib.hid (show X = P ++ V by rw [hX, HFS.out pos, HC.out, HPE.out, hV])
          have HXE := Lib.hid hX.symm
          have hVl : V.length ≤ 1000 := by rw [hV]; exact HVL.out 112
          have m4 := K1M.out.cell 4
          simp only [mvC, List.getElem?_toArray, List.getElem?_cons_zero, List.getElem?_cons_succ] at m4
          have bal := (Below.refl w1.heap.size w1).alloc (Nat.le_refl _) (.cells #[.int .u8 m.prio] 5)
          have RV := Lib.hid (Rd.of_own (own_litW w1 m.prio (Nat.le_refl _)))
          have P2 := Lib.hid (Own.below P1.out bal)
          have B2 := Lib.hid (bal.mono HGB.out.2.1)
          have HV := Lib.hid (show V = [m.prio] by rw [hV]; rfl)
          have HX1 := Lib.hid (show X = P ++ [m.prio] by rw [HX.out, HV.out])
          clear hV hX bal
          go_wp2_with (at_builtin
                       go_must (refine wpList_appW rfl (.tmp 44) (.tmp 47) rfl B0 (l := P) (news := [m.prio]) X HX1.out rfl rfl P2.out RV.out (by simp; omega) (Nat.le_trans HGB.out.2.1 B2.out.size) ?_)
                       intro A3 c3 w3 o3 g3 b3
                       have O3 := Lib.hid o3
                       have B3 := Lib.hid (B2.out.trans b3)
                       clear o3 g3 b3)
          go_roundw
          case rel => exact ⟨pos + 1, A3, c3, by rw [HXE.out], Lib.hid ⟨by rw [HXE.out]; exact O3.out, K1M.out.below B3.out HGB.out.2.2.1, I1.out.below B3.out HGB.out.2.2.2, B1.out.trans (B3.out.mono HGB.out.1), Nat.le_trans HGB.out.2.1 B3.out.size, hlt⟩⟩
          case measure =>
            rw [HM0.out, iterPos_it (I1.out.below B3.out HGB.out.2.2.2)]
            omega
        · -- 111
          rw [show ((111 : Nat) : Int) = 111 from rfl] at hnx
          obtain ⟨V, hV⟩ : ∃ V, V = bytC 111 m := ⟨_, rfl⟩
          obtain ⟨X, hX⟩ : ∃ X, X = F (pos + 1) := ⟨_, rfl⟩
          have HX := Lib.hid (show X = P ++ V by rw [hX, HFS.out pos, HC.out, HPE.out, hV])
          have HXE := Lib.hid hX.symm
          have hVl : V.length ≤ 1000 := by rw [hV]; exact HVL.out 111
          have m5 := K1M.out.cell 5
          simp only [mvC, List.getElem?_toArray, List.getElem?_cons_zero, List.getElem?_cons_succ] at m5
          have bal := (Below.refl w1.heap.size w1).alloc (Nat.le_refl _) (.cells #[.int .u8 m.ord] 5)
          have RV := Lib.hid (Rd.of_own (own_litW w1 m.ord (Nat.le_refl _)))
          have P2 := Lib.hid (Own.below P1.out bal)
          have B2 := Lib.hid (bal.mono HGB.out.2.1)
          have HV := Lib.hid (show V = [m.ord] by rw [hV]; rfl)
          have HX1 := Lib.hid (show X = P ++ [m.ord] by rw [HX.out, HV.out])
          clear hV hX bal
          go_wp2_with (at_builtin
                       go_must (refine wpList_appW rfl (.tmp 51) (.tmp 54) rfl B0 (l := P) (news := [m.ord]) X HX1.out rfl rfl P2.out RV.out (by simp; omega) (Nat.le_trans HGB.out.2.1 B2.out.size) ?_)
                       intro A3 c3 w3 o3 g3 b3
                       have O3 := Lib.hid o3
                       have B3 := Lib.hid (B2.out.trans b3)
                       clear o3 g3 b3)
          go_roundw
          case rel => exact ⟨pos + 1, A3, c3, by rw [HXE.out], Lib.hid ⟨by rw [HXE.out]; exact O3.out, K1M.out.below B3.out HGB.out.2.2.1, I1.out.below B3.out HGB.out.2.2.2, B1.out.trans (B3.out.mono HGB.out.1), Nat.le_trans HGB.out.2.1 B3.out.size, hlt⟩⟩
          case measure =>
            rw [HM0.out, iterPos_it (I1.out.below B3.out HGB.out.2.2.2)]
            omega
        · -- 115
          rw [show ((115 : Nat) : Int) = 115 from rfl] at hnx
          obtain ⟨V, hV⟩ : ∃ V, V = bytC 115 m := ⟨_, rfl⟩
          obtain ⟨X, hX⟩ : ∃ X, X = F (pos + 1) := ⟨_, rfl⟩
          have HX := Lib.hid (show X = P ++ V by rw [hX, HFS.out pos, HC.out, HPE.out, hV])
          have HXE := Lib.hid hX.symm
          have hVl : V.length ≤ 1000 := by rw [hV]; exact HVL.out 115
          have m6 := K1M.out.cell 6
          have m7 := K1M.out.cell 7
          simp only [mvC, List.getElem?_toArray, List.getElem?_cons_zero, List.getElem?_cons_succ] at m6 m7
          have CN : Calls Tryd.prog 29 #[.slice (some ⟨w1.heap.size, 0, none⟩) 2 2] (w1.alloc (.cells #[.int .u64 m.sg, .int .u64 m.so] 22)) fun r w' => ∃ A' c', r = .returned (.slice A' V.length c') ∧ Own w' (w1.alloc (.cells #[.int .u64 m.sg, .int .u64 m.so] 22)).heap.size A' c' V ∧ Below (w1.alloc (.cells #[.int .u64 m.sg, .int .u64 m.so] 22)).heap.size (w1.alloc (.cells #[.int .u64 m.sg, .int .u64 m.so] 22)) w' := by
            rw [hV]
            exact refNums_any (some ⟨w1.heap.size, 0, none⟩) 2 [m.sg, m.so] _ (OwnV.reads (lit2W w1 m.sg m.so)) (Nat.le_of_ble_eq_true rfl) (by intro x hx; simp at hx; rcases hx with rfl | rfl <;> first | exact HIN.out.sg | exact HIN.out.so)
          have CN2 := Lib.hid CN
          clear hV hX CN
          go_wp2_with fail
          refine CN2.out.mono ?_
          rintro e w2 ⟨A2, c2, rfl, o2, b2⟩
          have bal := ((Below.refl w1.heap.size w1).alloc (Nat.le_refl _) (.cells #[.int .u64 m.sg, .int .u64 m.so] 22)).trans (b2.mono (by simp))
          have RV := Lib.hid (Rd.of_own o2)
          have P2 := Lib.hid (Own.below P1.out bal)
          have B2 := Lib.hid (bal.mono HGB.out.2.1)
          clear o2 b2 bal CN2
          go_wp2_with (at_builtin
                       go_must (refine wpList_appW rfl (.tmp 58) (.tmp 66) rfl B0 (l := P) (news := V) X HX.out rfl rfl P2.out RV.out (by omega) (Nat.le_trans HGB.out.2.1 B2.out.size) ?_)
                       intro A3 c3 w3 o3 g3 b3
                       have O3 := Lib.hid o3
                       have B3 := Lib.hid (B2.out.trans b3)
                       clear o3 g3 b3)
          go_roundw
          case rel => exact ⟨pos + 1, A3, c3, by rw [HXE.out], Lib.hid ⟨by rw [HXE.out]; exact O3.out, K1M.out.below B3.out HGB.out.2.2.1, I1.out.below B3.out HGB.out.2.2.2, B1.out.trans (B3.out.mono HGB.out.1), Nat.le_trans HGB.out.2.1 B3.out.size, hlt⟩⟩
          case measure =>
            rw [HM0.out, iterPos_it (I1.out.below B3.out HGB.out.2.2.2)]
            omega
        · -- 101
          rw [show ((101 : Nat) : Int) = 101 from rfl] at hnx
          obtain ⟨V, hV⟩ : ∃ V, V = bytC 101 m := ⟨_, rfl⟩
          obtain ⟨X, hX⟩ : ∃ X, X = F (pos + 1) := ⟨_, rfl⟩
          have HX := Lib.hid (show X = P ++ V by rw [hX, HFS.out pos, HC.out, HPE.out, hV])
          have HXE := Lib.hid hX.symm
          have hVl : V.length ≤ 1000 := by rw [hV]; exact HVL.out 101
          have m8 := K1M.out.cell 8
          have m9 := K1M.out.cell 9
          simp only [mvC, List.getElem?_toArray, List.getElem?_cons_zero, List.getElem?_cons_succ] at m8 m9
          have CN : Calls Tryd.prog 29 #[.slice (some ⟨w1.heap.size, 0, none⟩) 2 2] (w1.alloc (.cells #[.int .u64 m.eg, .int .u64 m.eo] 22)) fun r w' => ∃ A' c', r = .returned (.slice A' V.length c') ∧ Own w' (w1.alloc (.cells #[.int .u64 m.eg, .int .u64 m.eo] 22)).heap.size A' c' V ∧ Below (w1.alloc (.cells #[.int .u64 m.eg, .int .u64 m.eo] 22)).heap.size (w1.alloc (.cells #[.int .u64 m.eg, .int .u64 m.eo] 22)) w' := by
            rw [hV]
            exact refNums_any (some ⟨w1.heap.size, 0, none⟩) 2 [m.eg, m.eo] _ (OwnV.reads (lit2W w1 m.eg m.eo)) (Nat.le_of_ble_eq_true rfl) (by intro x hx; simp at hx; rcases hx with rfl | rfl <;> first | exact HIN.out.eg | exact HIN.out.eo)
          have CN2 := Lib.hid CN
          clear hV hX CN
          go_wp2_with fail
          refine CN2.out.mono ?_
          rintro e w2 ⟨A2, c2, rfl, o2, b2⟩
          have bal := ((Below.refl w1.heap.size w1).alloc (Nat.le_refl _) (.cells #[.int .u64 m.eg, .int .u64 m.eo] 22)).trans (b2.mono (by simp))
          have RV := Lib.hid (Rd.of_own o2)
          have P2 := Lib.hid (Own.below P1.out bal)
          have B2 := Lib.hid (bal.mono HGB.out.2.1)
          clear o2 b2 bal CN2
          go_wp2_with (at_builtin
                       go_must (refine wpList_appW rfl (.tmp 70) (.tmp 78) rfl B0 (l := P) (news := V) X HX.out rfl rfl P2.out RV.out (by omega) (Nat.le_trans HGB.out.2.1 B2.out.size) ?_)
                       intro A3 c3 w3 o3 g3 b3
                       have O3 := Lib.hid o3
                       have B3 := Lib.hid (B2.out.trans b3)
                       clear o3 g3 b3)
          go_roundw
          case rel => exact ⟨pos + 1, A3, c3, by rw [HXE.out], Lib.hid ⟨by rw [HXE.out]; exact O3.out, K1M.out.below B3.out HGB.out.2.2.1, I1.out.below B3.out HGB.out.2.2.2, B1.out.trans (B3.out.mono HGB.out.1), Nat.le_trans HGB.out.2.1 B3.out.size, hlt⟩⟩
          case measure =>
            rw [HM0.out, iterPos_it (I1.out.below B3.out HGB.out.2.2.2)]
            omega
        · -- 103
          rw [show ((103 : Nat) : Int) = 103 from rfl] at hnx
          obtain ⟨V, hV⟩ : ∃ V, V = bytC 103 m := ⟨_, rfl⟩
          obtain ⟨X, hX⟩ : ∃ X, X = F (pos + 1) := ⟨_, rfl⟩
          have HX := Lib.hid (show X = P ++ V by rw [hX, HFS.out pos, HC.out, HPE.out, hV])
          have HXE := Lib.hid hX.symm
          have hVl : V.length ≤ 1000 := by rw [hV]; exact HVL.out 103
          have m8 := K1M.out.cell 8
          simp only [mvC, List.getElem?_toArray, List.getElem?_cons_zero, List.getElem?_cons_succ] at m8
          have CN : Calls Tryd.prog 29 #[.slice (some ⟨w1.heap.size, 0, none⟩) 1 1] (w1.alloc (.cells #[.int .u64 m.eg] 22)) fun r w' => ∃ A' c', r = .returned (.slice A' V.length c') ∧ Own w' (w1.alloc (.cells #[.int .u64 m.eg] 22)).heap.size A' c' V ∧ Below (w1.alloc (.cells #[.int .u64 m.eg] 22)).heap.size (w1.alloc (.cells #[.int .u64 m.eg] 22)) w' := by
            rw [hV]
            exact refNums_any (some ⟨w1.heap.size, 0, none⟩) 1 [m.eg] _ (OwnV.reads (lit1W w1 m.eg)) (Nat.le_of_ble_eq_true rfl) (by intro x hx; simp at hx; subst hx <;> first | exact HIN.out.eg | exact HIN.out.eg)
          have CN2 := Lib.hid CN
          clear hV hX CN
          go_wp2_with fail
          refine CN2.out.mono ?_
          rintro e w2 ⟨A2, c2, rfl, o2, b2⟩
          have bal := ((Below.refl w1.heap.size w1).alloc (Nat.le_refl _) (.cells #[.int .u64 m.eg] 22)).trans (b2.mono (by simp))
          have RV := Lib.hid (Rd.of_own o2)
          have P2 := Lib.hid (Own.below P1.out bal)
          have B2 := Lib.hid (bal.mono HGB.out.2.1)
          clear o2 b2 bal CN2
          go_wp2_with (at_builtin
                       go_must (refine wpList_appW rfl (.tmp 82) (.tmp 87) rfl B0 (l := P) (news := V) X HX.out rfl rfl P2.out RV.out (by omega) (Nat.le_trans HGB.out.2.1 B2.out.size) ?_)
                       intro A3 c3 w3 o3 g3 b3
                       have O3 := Lib.hid o3
                       have B3 := Lib.hid (B2.out.trans b3)
                       clear o3 g3 b3)
          go_roundw
          case rel => exact ⟨pos + 1, A3, c3, by rw [HXE.out], Lib.hid ⟨by rw [HXE.out]; exact O3.out, K1M.out.below B3.out HGB.out.2.2.1, I1.out.below B3.out HGB.out.2.2.2, B1.out.trans (B3.out.mono HGB.out.1), Nat.le_trans HGB.out.2.1 B3.out.size, hlt⟩⟩
          case measure =>
            rw [HM0.out, iterPos_it (I1.out.below B3.out HGB.out.2.2.2)]
            omega
        · -- 98
          rw [show ((98 : Nat) : Int) = 98 from rfl] at hnx
          obtain ⟨V, hV⟩ : ∃ V, V = bytC 98 m := ⟨_, rfl⟩
          obtain ⟨X, hX⟩ : ∃ X, X = F (pos + 1) := ⟨_, rfl⟩
          have HX := Lib.hid (show X = P ++ V by rw [hX, HFS.out pos, HC.out, HPE.out, hV])
          have HXE := Lib.hid hX.symm
          have hVl : V.length ≤ 1000 := by rw [hV]; exact HVL.out 98
          have m10 := K1M.out.cell 10
          simp only [mvC, List.getElem?_toArray, List.getElem?_cons_zero, List.getElem?_cons_succ] at m10
          cases hb : m.some_ with
          | false =>
            rw [hb] at m10
            have bal := (Below.refl w1.heap.size w1).alloc (Nat.le_refl _) (.cells #[.int .u8 0] 5)
            have RV := Lib.hid (Rd.of_own (own_litW w1 0 (Nat.le_refl _)))
            have P2 := Lib.hid (Own.below P1.out bal)
            have B2 := Lib.hid (bal.mono HGB.out.2.1)
            have HV := Lib.hid (show V = [0] by rw [hV]; show [bitI m.some_] = _; rw [hb]; rfl)
            have HX1 := Lib.hid (show X = P ++ [0] by rw [HX.out, HV.out])
            clear hV hX bal hb
            go_wp2_with (at_builtin
                         go_must (refine wpList_appW rfl (.tmp 95) (.tmp 97) rfl B0 (l := P) (news := [0]) X HX1.out rfl rfl P2.out RV.out (by simp; omega) (Nat.le_trans HGB.out.2.1 B2.out.size) ?_)
                         intro A3 c3 w3 o3 g3 b3
                         have O3 := Lib.hid o3
                         have B3 := Lib.hid (B2.out.trans b3)
                         clear o3 g3 b3)
            go_roundw
            case rel => exact ⟨pos + 1, A3, c3, by rw [HXE.out], Lib.hid ⟨by rw [HXE.out]; exact O3.out, K1M.out.below B3.out HGB.out.2.2.1, I1.out.below B3.out HGB.out.2.2.2, B1.out.trans (B3.out.mono HGB.out.1), Nat.le_trans HGB.out.2.1 B3.out.size, hlt⟩⟩
            case measure =>
              rw [HM0.out, iterPos_it (I1.out.below B3.out HGB.out.2.2.2)]
              omega
          | true =>
            rw [hb] at m10
            have bal := (Below.refl w1.heap.size w1).alloc (Nat.le_refl _) (.cells #[.int .u8 1] 5)
            have RV := Lib.hid (Rd.of_own (own_litW w1 1 (Nat.le_refl _)))
            have P2 := Lib.hid (Own.below P1.out bal)
            have B2 := Lib.hid (bal.mono HGB.out.2.1)
            have HV := Lib.hid (show V = [1] by rw [hV]; show [bitI m.some_] = _; rw [hb]; rfl)
            have HX1 := Lib.hid (show X = P ++ [1] by rw [HX.out, HV.out])
            clear hV hX bal hb
            go_wp2_with (at_builtin
                         go_must (refine wpList_appW rfl (.tmp 95) (.tmp 97) rfl B0 (l := P) (news := [1]) X HX1.out rfl rfl P2.out RV.out (by simp; omega) (Nat.le_trans HGB.out.2.1 B2.out.size) ?_)
                         intro A3 c3 w3 o3 g3 b3
                         have O3 := Lib.hid o3
                         have B3 := Lib.hid (B2.out.trans b3)
                         clear o3 g3 b3)
            go_roundw
            case rel => exact ⟨pos + 1, A3, c3, by rw [HXE.out], Lib.hid ⟨by rw [HXE.out]; exact O3.out, K1M.out.below B3.out HGB.out.2.2.1, I1.out.below B3.out HGB.out.2.2.2, B1.out.trans (B3.out.mono HGB.out.1), Nat.le_trans HGB.out.2.1 B3.out.size, hlt⟩⟩
            case measure =>
              rw [HM0.out, iterPos_it (I1.out.below B3.out HGB.out.2.2.2)]
              omega
        · -- 99
          rw [show ((99 : Nat) : Int) = 99 from rfl] at hnx
          obtain ⟨V, hV⟩ : ∃ V, V = bytC 99 m := ⟨_, rfl⟩
          obtain ⟨X, hX⟩ : ∃ X, X = F (pos + 1) := ⟨_, rfl⟩
          have HX := Lib.hid (show X = P ++ V by rw [hX, HFS.out pos, HC.out, HPE.out, hV])
          have HXE := Lib.hid hX.symm
          have hVl : V.length ≤ 1000 := by rw [hV]; exact HVL.out 99
          have m11 := K1M.out.cell 11
          simp only [mvC, List.getElem?_toArray, List.getElem?_cons_zero, List.getElem?_cons_succ] at m11
          have CN : Calls Tryd.prog 29 #[.slice (some ⟨w1.heap.size, 0, none⟩) 1 1] (w1.alloc (.cells #[.int .u64 m.code] 22)) fun r w' => ∃ A' c', r = .returned (.slice A' V.length c') ∧ Own w' (w1.alloc (.cells #[.int .u64 m.code] 22)).heap.size A' c' V ∧ Below (w1.alloc (.cells #[.int .u64 m.code] 22)).heap.size (w1.alloc (.cells #[.int .u64 m.code] 22)) w' := by
            rw [hV]
            exact refNums_any (some ⟨w1.heap.size, 0, none⟩) 1 [m.code] _ (OwnV.reads (lit1W w1 m.code)) (Nat.le_of_ble_eq_true rfl) (by intro x hx; simp at hx; subst hx <;> first | exact HIN.out.code | exact HIN.out.code)
          have CN2 := Lib.hid CN
          clear hV hX CN
          go_wp2_with fail
          refine CN2.out.mono ?_
          rintro e w2 ⟨A2, c2, rfl, o2, b2⟩
          have bal := ((Below.refl w1.heap.size w1).alloc (Nat.le_refl _) (.cells #[.int .u64 m.code] 22)).trans (b2.mono (by simp))
          have RV := Lib.hid (Rd.of_own o2)
          have P2 := Lib.hid (Own.below P1.out bal)
          have B2 := Lib.hid (bal.mono HGB.out.2.1)
          clear o2 b2 bal CN2
          go_wp2_with (at_builtin
                       go_must (refine wpList_appW rfl (.tmp 101) (.tmp 105) rfl B0 (l := P) (news := V) X HX.out rfl rfl P2.out RV.out (by omega) (Nat.le_trans HGB.out.2.1 B2.out.size) ?_)
                       intro A3 c3 w3 o3 g3 b3
                       have O3 := Lib.hid o3
                       have B3 := Lib.hid (B2.out.trans b3)
                       clear o3 g3 b3)
          go_roundw
          case rel => exact ⟨pos + 1, A3, c3, by rw [HXE.out], Lib.hid ⟨by rw [HXE.out]; exact O3.out, K1M.out.below B3.out HGB.out.2.2.1, I1.out.below B3.out HGB.out.2.2.2, B1.out.trans (B3.out.mono HGB.out.1), Nat.le_trans HGB.out.2.1 B3.out.size, hlt⟩⟩
          case measure =>
            rw [HM0.out, iterPos_it (I1.out.below B3.out HGB.out.2.2.2)]
            omega
        · -- 114
          rw [show ((114 : Nat) : Int) = 114 from rfl] at hnx
          obtain ⟨V, hV⟩ : ∃ V, V = bytC 114 m := ⟨_, rfl⟩
          obtain ⟨X, hX⟩ : ∃ X, X = F (pos + 1) := ⟨_, rfl⟩
          have HX := Lib.hid (show X = P ++ V by rw [hX, HFS.out pos, HC.out, HPE.out, hV])
          have HXE := Lib.hid hX.symm
          have hVl : V.length ≤ 1000 := by rw [hV]; exact HVL.out 114
          have m12 := K1M.out.cell 12
          simp only [mvC, List.getElem?_toArray, List.getElem?_cons_zero, List.getElem?_cons_succ] at m12
          have CN : Calls Tryd.prog 30 #[.slice rA m.reason.length rc] w1 fun r w' => ∃ A' c', r = .returned (.slice A' V.length c') ∧ Own w' w1.heap.size A' c' V ∧ Below w1.heap.size w1 w' := by
            rw [hV]
            exact refTextW rA rc m.reason w1 (Rd.below HRD.out.2.1 B1.out) (by omega)
          have CN2 := Lib.hid CN
          clear hV hX CN
          go_wp2_with fail
          refine CN2.out.mono ?_
          rintro e w2 ⟨A2, c2, rfl, o2, bal⟩
          have RV := Lib.hid (Rd.of_own o2)
          have P2 := Lib.hid (Own.below P1.out bal)
          have B2 := Lib.hid (bal.mono HGB.out.2.1)
          clear o2 bal CN2
          go_wp2_with (at_builtin
                       go_must (refine wpList_appW rfl (.tmp 109) (.tmp 112) rfl B0 (l := P) (news := V) X HX.out rfl rfl P2.out RV.out (by omega) (Nat.le_trans HGB.out.2.1 B2.out.size) ?_)
                       intro A3 c3 w3 o3 g3 b3
                       have O3 := Lib.hid o3
                       have B3 := Lib.hid (B2.out.trans b3)
                       clear o3 g3 b3)
          go_roundw
          case rel => exact ⟨pos + 1, A3, c3, by rw [HXE.out], Lib.hid ⟨by rw [HXE.out]; exact O3.out, K1M.out.below B3.out HGB.out.2.2.1, I1.out.below B3.out HGB.out.2.2.2, B1.out.trans (B3.out.mono HGB.out.1), Nat.le_trans HGB.out.2.1 B3.out.size, hlt⟩⟩
          case measure =>
            rw [HM0.out, iterPos_it (I1.out.below B3.out HGB.out.2.2.2)]
            omega
        · -- 110
          rw [show ((110 : Nat) : Int) = 110 from rfl] at hnx
          obtain ⟨V, hV⟩ : ∃ V, V = bytC 110 m := ⟨_, rfl⟩
          obtain ⟨X, hX⟩ : ∃ X, X = F (pos + 1) := ⟨_, rfl⟩
          have HX := Lib.hid (show X = P ++ V by rw [hX, HFS.out pos, HC.out, HPE.out, hV])
          have HXE := Lib.hid hX.symm
          have hVl : V.length ≤ 1000 := by rw [hV]; exact HVL.out 110
          have m13 := K1M.out.cell 13
          simp only [mvC, List.getElem?_toArray, List.getElem?_cons_zero, List.getElem?_cons_succ] at m13
          have CN : Calls Tryd.prog 29 #[.slice (some ⟨w1.heap.size, 0, none⟩) 1 1] (w1.alloc (.cells #[.int .u64 m.n] 22)) fun r w' => ∃ A' c', r = .returned (.slice A' V.length c') ∧ Own w' (w1.alloc (.cells #[.int .u64 m.n] 22)).heap.size A' c' V ∧ Below (w1.alloc (.cells #[.int .u64 m.n] 22)).heap.size (w1.alloc (.cells #[.int .u64 m.n] 22)) w' := by
            rw [hV]
            exact refNums_any (some ⟨w1.heap.size, 0, none⟩) 1 [m.n] _ (OwnV.reads (lit1W w1 m.n)) (Nat.le_of_ble_eq_true rfl) (by intro x hx; simp at hx; subst hx <;> first | exact HIN.out.n | exact HIN.out.n)
          have CN2 := Lib.hid CN
          clear hV hX CN
          go_wp2_with fail
          refine CN2.out.mono ?_
          rintro e w2 ⟨A2, c2, rfl, o2, b2⟩
          have bal := ((Below.refl w1.heap.size w1).alloc (Nat.le_refl _) (.cells #[.int .u64 m.n] 22)).trans (b2.mono (by simp))
          have RV := Lib.hid (Rd.of_own o2)
          have P2 := Lib.hid (Own.below P1.out bal)
          have B2 := Lib.hid (bal.mono HGB.out.2.1)
          clear o2 b2 bal CN2
          go_wp2_with (at_builtin
                       go_must (refine wpList_appW rfl (.tmp 116) (.tmp 120) rfl B0 (l := P) (news := V) X HX.out rfl rfl P2.out RV.out (by omega) (Nat.le_trans HGB.out.2.1 B2.out.size) ?_)
                       intro A3 c3 w3 o3 g3 b3
                       have O3 := Lib.hid o3
                       have B3 := Lib.hid (B2.out.trans b3)
                       clear o3 g3 b3)
          go_roundw
          case rel => exact ⟨pos + 1, A3, c3, by rw [HXE.out], Lib.hid ⟨by rw [HXE.out]; exact O3.out, K1M.out.below B3.out HGB.out.2.2.1, I1.out.below B3.out HGB.out.2.2.2, B1.out.trans (B3.out.mono HGB.out.1), Nat.le_trans HGB.out.2.1 B3.out.size, hlt⟩⟩
          case measure =>
            rw [HM0.out, iterPos_it (I1.out.below B3.out HGB.out.2.2.2)]
            omega
        · -- 118
          rw [show ((118 : Nat) : Int) = 118 from rfl] at hnx
          obtain ⟨V, hV⟩ : ∃ V, V = bytC 118 m := ⟨_, rfl⟩
          obtain ⟨X, hX⟩ : ∃ X, X = F (pos + 1) := ⟨_, rfl⟩
          have HX := Lib.hid (show X = P ++ V by rw [hX, HFS.out pos, HC.out, HPE.out, hV])
          have HXE := Lib.hid hX.symm
          have hVl : V.length ≤ 1000 := by rw [hV]; exact HVL.out 118
          have m14 := K1M.out.cell 14
          simp only [mvC, List.getElem?_toArray, List.getElem?_cons_zero, List.getElem?_cons_succ] at m14
          have CN : Calls Tryd.prog 29 #[.slice (some ⟨w1.heap.size, 0, none⟩) 1 1] (w1.alloc (.cells #[.int .u64 m.ver] 22)) fun r w' => ∃ A' c', r = .returned (.slice A' V.length c') ∧ Own w' (w1.alloc (.cells #[.int .u64 m.ver] 22)).heap.size A' c' V ∧ Below (w1.alloc (.cells #[.int .u64 m.ver] 22)).heap.size (w1.alloc (.cells #[.int .u64 m.ver] 22)) w' := by
            rw [hV]
            exact refNums_any (some ⟨w1.heap.size, 0, none⟩) 1 [m.ver] _ (OwnV.reads (lit1W w1 m.ver)) (Nat.le_of_ble_eq_true rfl) (by intro x hx; simp at hx; subst hx <;> first | exact HIN.out.ver | exact HIN.out.ver)
          have CN2 := Lib.hid CN
          clear hV hX CN
          go_wp2_with fail
          refine CN2.out.mono ?_
          rintro e w2 ⟨A2, c2, rfl, o2, b2⟩
          have bal := ((Below.refl w1.heap.size w1).alloc (Nat.le_refl _) (.cells #[.int .u64 m.ver] 22)).trans (b2.mono (by simp))
          have RV := Lib.hid (Rd.of_own o2)
          have P2 := Lib.hid (Own.below P1.out bal)
          have B2 := Lib.hid (bal.mono HGB.out.2.1)
          clear o2 b2 bal CN2
          go_wp2_with (at_builtin
                       go_must (refine wpList_appW rfl (.tmp 124) (.tmp 128) rfl B0 (l := P) (news := V) X HX.out rfl rfl P2.out RV.out (by omega) (Nat.le_trans HGB.out.2.1 B2.out.size) ?_)
                       intro A3 c3 w3 o3 g3 b3
                       have O3 := Lib.hid o3
                       have B3 := Lib.hid (B2.out.trans b3)
                       clear o3 g3 b3)
          go_roundw
          case rel => exact ⟨pos + 1, A3, c3, by rw [HXE.out], Lib.hid ⟨by rw [HXE.out]; exact O3.out, K1M.out.below B3.out HGB.out.2.2.1, I1.out.below B3.out HGB.out.2.2.2, B1.out.trans (B3.out.mono HGB.out.1), Nat.le_trans HGB.out.2.1 B3.out.size, hlt⟩⟩
          case measure =>
            rw [HM0.out, iterPos_it (I1.out.below B3.out HGB.out.2.2.2)]
            omega
        · -- 108
          rw [show ((108 : Nat) : Int) = 108 from rfl] at hnx
          obtain ⟨V, hV⟩ : ∃ V, V = bytC 108 m := ⟨_, rfl⟩
          obtain ⟨X, hX⟩ : ∃ X, X = F (pos + 1) := ⟨_, rfl⟩
          have HX := Lib.hid (show X = P ++ V by rw [hX, HFS.out pos, HC.out, HPE.out, hV])
          have HXE := Lib.hid hX.symm
          have hVl : V.length ≤ 1000 := by rw [hV]; exact HVL.out 108
          obtain ⟨V1, hV1⟩ : ∃ V1, V1 = vencs [(m.vers.length : Int)] := ⟨_, rfl⟩
          obtain ⟨V2, hV2⟩ : ∃ V2, V2 = vencs m.vers := ⟨_, rfl⟩
          obtain ⟨Y, hY⟩ : ∃ Y, Y = P ++ V1 := ⟨_, rfl⟩
          have HY := Lib.hid hY
          have HXY := Lib.hid (show X = Y ++ V2 by rw [HX.out, hY, List.append_assoc, hV1, hV2, hV]; rfl)
          have hV1l : V1.length ≤ 8 := by rw [hV1]; have := vencs_len (l := [(m.vers.length : Int)]) (by intro x hx; simp at hx; subst hx; omega); simpa using this
          have hV2l : V2.length ≤ 8 * m.vers.length := by rw [hV2]; exact vencs_len (fun x hx => HIN.out.vers x hx)
          have hYl : Y.length ≤ 20100 := by rw [hY, List.length_append]; omega
          have HN1 := Lib.hid (fun W' (hr : RdI .u64 W' (some ⟨w1.heap.size, 0, none⟩) [(m.vers.length : Int)]) => refNums_any (some ⟨w1.heap.size, 0, none⟩) 1 [(m.vers.length : Int)] W' hr (Nat.le_of_ble_eq_true rfl) (by intro x hx; simp at hx; subst hx; exact ⟨by omega, by omega⟩))
          have HN2 := Lib.hid (fun W' (hb : Below w.heap.size w W') => refNums_any vA vc m.vers W' (RdI.below HRD.out.2.2 hb) (by omega) (fun x hx => HIN.out.vers x hx))
          rw [← hV1] at HN1
          rw [← hV2] at HN2
          have hw64 : IntKind.u64.wrap (m.vers.length : Int) = (m.vers.length : Int) := by rw [IntKind.wrap_u64]; omega
          clear hV hX hV1 hV2 hY
          go_upto_region 38 with (fail)
          refine wp_region_held_drew (S := fun w' => Below B0 w1 w') (by kernel_rfl) (Below.refl B0 w1).drew (fun s0 => ?_)
          refine wpAnyH_take (i := 0) (oi := ⟨_, _, _, _, _, _⟩) (v := .slice A P.length c) rfl (by kernel_rfl) (by kernel_rfl) (by kernel_rfl) (fun _ _ _ h => h) (Or.inl ⟨by rfl, fun w' hS => by go_simp⟩) s0 ?_
          simp only [Act.put, List.setIfInBounds_toArray, List.set_cons_zero, List.set_cons_succ]
          refine wpAnyH_take (i := 1) (oi := ⟨_, _, _, _, _, _⟩) (v := .pointer (some ⟨w.heap.size, 15, none⟩)) rfl (by kernel_rfl) (by kernel_rfl) (by kernel_rfl) (fun _ _ _ h => h) (Or.inl ⟨by rfl, fun w' hS => by go_simp⟩) s0 ?_
          simp only [Act.put, List.setIfInBounds_toArray, List.set_cons_zero, List.set_cons_succ]
          refine wpAnyH_take (i := 2) (oi := ⟨_, _, _, _, _, _⟩) (v := .slice vA m.vers.length vc) rfl (by kernel_rfl) (by kernel_rfl) (by kernel_rfl) (fun _ _ _ h => h) (Or.inl ⟨by rfl, fun w' hS => by have c15 := (K1M.out.below hS HGB.out.2.2.1).cell 15; simp only [mvC, List.getElem?_toArray, List.getElem?_cons_zero, List.getElem?_cons_succ] at c15; go_simp⟩) s0 ?_
          simp only [Act.put, List.setIfInBounds_toArray, List.set_cons_zero, List.set_cons_succ]
          refine wpAnyH_take (i := 3) (oi := ⟨_, _, _, _, _, _⟩) (v := .int .i64 m.vers.length) rfl (by kernel_rfl) (by kernel_rfl) (by kernel_rfl) (fun _ _ _ h => h) (Or.inl ⟨by rfl, fun w' hS => by go_simp⟩) s0 ?_
          simp only [Act.put, List.setIfInBounds_toArray, List.set_cons_zero, List.set_cons_succ]
          refine wpAnyH_take (i := 4) (oi := ⟨_, _, _, _, _, _⟩) (v := .int .u64 m.vers.length) rfl (by kernel_rfl) (by kernel_rfl) (by kernel_rfl) (fun _ _ _ h => h) (Or.inl ⟨by rfl, fun w' hS => by go_simp⟩) s0 ?_
          simp only [Act.put, List.setIfInBounds_toArray, List.set_cons_zero, List.set_cons_succ]
          refine wpAnyH_take (i := 8) (oi := ⟨_, _, _, _, _, _⟩) (v := .pointer (some ⟨w.heap.size, 15, none⟩)) rfl (by kernel_rfl) (by kernel_rfl) (by kernel_rfl) (fun _ _ _ h => h) (Or.inl ⟨by rfl, fun w' hS => by go_simp⟩) s0 ?_
          simp only [Act.put, List.setIfInBounds_toArray, List.set_cons_zero, List.set_cons_succ]
          refine wpAnyH_take (i := 9) (oi := ⟨_, _, _, _, _, _⟩) (v := .slice vA m.vers.length vc) rfl (by kernel_rfl) (by kernel_rfl) (by kernel_rfl) (fun _ _ _ h => h) (Or.inl ⟨by rfl, fun w' hS => by have c15 := (K1M.out.below hS HGB.out.2.2.1).cell 15; simp only [mvC, List.getElem?_toArray, List.getElem?_cons_zero, List.getElem?_cons_succ] at c15; go_simp⟩) s0 ?_
          simp only [Act.put, List.setIfInBounds_toArray, List.set_cons_zero, List.set_cons_succ]
          refine wpAnyH_ready (rs := [5]) (by kernel_rfl) (by simp) ?_
          refine AllReadyH.cons rfl (fun K hK => ?_) AllReadyH.nil
          go_simp
          have b5 : Below w1.heap.size w1 (w1.alloc (.cells #[.int .u64 (m.vers.length : Int)] 22)).drew := ((Below.refl w1.heap.size w1).alloc (Nat.le_refl _) _).drew
          have r5 : RdI .u64 (w1.alloc (.cells #[.int .u64 (m.vers.length : Int)] 22)).drew (some ⟨w1.heap.size, 0, none⟩) [(m.vers.length : Int)] := (show RdI .u64 (w1.alloc (.cells #[.int .u64 (m.vers.length : Int)] 22)) (some ⟨w1.heap.size, 0, none⟩) [(m.vers.length : Int)] from OwnV.reads (lit1W w1 (m.vers.length : Int)))
          refine hK.out _ _ (b5.mono HGB.out.2.1) (fun s5 => ?_)
          clear hK K s0
          obtain ⟨w5, hw5⟩ : ∃ w5, w5 = (w1.alloc (.cells #[.int .u64 (m.vers.length : Int)] 22)).drew := ⟨_, rfl⟩
          rw [← hw5] at b5 r5 s5 ⊢
          have hz5 : w1.heap.size ≤ w5.heap.size := b5.size
          clear hw5
          refine wpAnyH_ready (rs := [6]) (by kernel_rfl) (by simp) ?_
          refine AllReadyH.cons rfl (fun K hK => ?_) AllReadyH.nil
          go_simp
          refine (HN1.out w5 r5).mono ?_
          rintro e w6 ⟨A6, c6, rfl, o6, b6⟩
          have b16 := b5.trans (b6.mono hz5)
          refine hK.out _ _ (b16.mono HGB.out.2.1) (fun s6 => ?_)
          clear hK K s5 r5 b5
          have P6 := Lib.hid (Own.below P1.out b16)
          have R6 := Lib.hid (Rd.of_own o6)
          refine wpAnyH_ready (rs := [7]) (by kernel_rfl) (by simp) ?_
          refine AllReadyH.cons rfl (fun K hK => ?_) AllReadyH.nil
          refine step_appW rfl (.tmp 132) (.tmp 138) rfl B0 (l := P) (news := V1) Y HY.out rfl rfl P6.out R6.out (by omega) (Nat.le_trans HGB.out.2.1 b16.size) ?_
          intro A7 c7 w7 o7 b7
          have b17 := s6.trans b7
          refine hK.out _ _ b17 (fun s7 => ?_)
          clear hK K s6 o6 b6 b16 hz5 b7
          simp only [List.getElem_toArray, List.getElem_cons_succ, List.getElem_cons_zero, Act.put, List.setIfInBounds_toArray, List.set_cons_succ, List.set_cons_zero]
          have O7 := Lib.hid o7
          refine wpAnyH_ready (rs := [10]) (by kernel_rfl) (by simp) ?_
          refine AllReadyH.cons rfl (fun K hK => ?_) AllReadyH.nil
          go_simp
          refine (HN2.out w7 (B1.out.trans (s7.mono HGB.out.1))).mono ?_
          rintro e w8 ⟨A8, c8, rfl, o8, b8⟩
          have b18 := s7.trans (b8.mono (Nat.le_trans HGB.out.2.1 s7.size))
          refine hK.out _ _ b18 (fun s8 => ?_)
          have P8 := Lib.hid (Own.below O7.out b8)
          have R8 := Lib.hid (Rd.of_own o8)
          clear hK K s7 o7 b8 o8 b17 b18
          refine wpAnyH_ready (rs := [11]) (by kernel_rfl) (by simp) ?_
          refine AllReadyH.cons rfl (fun K hK => ?_) AllReadyH.nil
          refine step_appW rfl (.tmp 139) (.tmp 142) rfl B0 (l := Y) (news := V2) X HXY.out rfl rfl P8.out R8.out (by omega) (Nat.le_trans HGB.out.2.1 s8.size) ?_
          intro A3 c3 w3 o3 b3
          have b19 := s8.trans b3
          refine hK.out _ _ b19 (fun s9 => ?_)
          clear hK K s8 b3
          simp only [List.getElem_toArray, List.getElem_cons_succ, List.getElem_cons_zero, Act.put, List.setIfInBounds_toArray, List.set_cons_succ, List.set_cons_zero]
          have O3 := Lib.hid o3
          have B3 := Lib.hid b19
          refine wpAnyH_take (i := 12) (oi := ⟨_, _, _, _, _, _⟩) (v := .slice A3 X.length c3) rfl (by kernel_rfl) (by kernel_rfl) (by kernel_rfl) (fun _ _ _ h => h) (Or.inl ⟨by rfl, fun w' hS => by go_simp⟩) s9 ?_
          simp only [Act.put, List.setIfInBounds_toArray, List.set_cons_zero, List.set_cons_succ]
          refine wpAnyH_done (by kernel_rfl) ?_ _
          clear o3 b19 s9
          go_wp2_with fail
          go_roundw
          case rel => exact ⟨pos + 1, A3, c3, by rw [HXE.out], Lib.hid ⟨by rw [HXE.out]; exact O3.out, K1M.out.below B3.out HGB.out.2.2.1, I1.out.below B3.out HGB.out.2.2.2, B1.out.trans (B3.out.mono HGB.out.1), Nat.le_trans HGB.out.2.1 B3.out.size, hlt⟩⟩
          case measure =>
            rw [HM0.out, iterPos_it (I1.out.below B3.out HGB.out.2.2.2)]
            omega
        · -- 45
          rw [show ((45 : Nat) : Int) = 45 from rfl] at hnx
          obtain ⟨V, hV⟩ : ∃ V, V = bytC 45 m := ⟨_, rfl⟩
          obtain ⟨X, hX⟩ : ∃ X, X = F (pos + 1) := ⟨_, rfl⟩
          have HX := Lib.hid (show X = P ++ V by rw [hX, HFS.out pos, HC.out, HPE.out, hV])
          have HXE := Lib.hid hX.symm
          have hVl : V.length ≤ 1000 := by rw [hV]; exact HVL.out 45
          have HX1 := Lib.hid (show X = P by rw [HX.out, hV]; show P ++ [] = P; rw [List.append_nil])
          have B3 := Lib.hid (Below.refl B0 w1)
          have O3 := Lib.hid (show Own w1 B0 A c X by rw [HX1.out]; exact P1.out)
          have HXL := Lib.hid (show P.length = X.length by rw [HX1.out])
          clear hV hX
          go_wp2_with fail
          go_roundw
          case rel => exact ⟨pos + 1, A, c, by rw [HXE.out, HXL.out], Lib.hid ⟨by rw [HXE.out]; exact O3.out, K1M.out.below B3.out HGB.out.2.2.1, I1.out.below B3.out HGB.out.2.2.2, B1.out.trans (B3.out.mono HGB.out.1), Nat.le_trans HGB.out.2.1 B3.out.size, hlt⟩⟩
          case measure =>
            rw [HM0.out, iterPos_it (I1.out.below B3.out HGB.out.2.2.2)]
            omega
      · have hnx : ∀ ty, (Instr.next (.pointer (some ⟨wq.heap.size, 0, none⟩)) true ty).run Tryd.prog wr = .ok (.tuple #[.bool false]) wr := fun ty => run_next_it_end wr wq.heap.size s pos ty (by rw [← HGI.out]; exact HI.out.it) hlt
        have hps : pos = s.size := by have := HI.out.le; omega
        have km := HI.out.km
        have zm := km.lt
        have d0 := km.cell 0
        simp only [mvC, List.getElem?_toArray, List.getElem?_cons_zero, List.getElem?_cons_succ] at d0
        have BR := Lib.hid HI.out.bel
        have PR := Lib.hid HI.out.own
        have hPl := HFL.out pos (by omega)
        obtain ⟨P, hP⟩ : ∃ P, P = F pos := ⟨_, rfl⟩
        rw [← hP] at PR hPl ⊢
        have hPB : P = bytM m := by rw [hP, hps]; exact HFE.out
        obtain ⟨V, hV⟩ : ∃ V, V = vencs [m.kind] := ⟨_, rfl⟩
        have CN : Calls Tryd.prog 29 #[.slice (some ⟨wr.heap.size, 0, none⟩) 1 1] (wr.alloc (.cells #[.int .u64 m.kind] 22)) fun r w' => ∃ A' c', r = .returned (.slice A' V.length c') ∧ Own w' (wr.alloc (.cells #[.int .u64 m.kind] 22)).heap.size A' c' V ∧ Below (wr.alloc (.cells #[.int .u64 m.kind] 22)).heap.size (wr.alloc (.cells #[.int .u64 m.kind] 22)) w' := by
          rw [hV]
          exact refNums_any (some ⟨wr.heap.size, 0, none⟩) 1 [m.kind] _ (OwnV.reads (lit1W wr m.kind)) (Nat.le_of_ble_eq_true rfl) (by intro x hx; simp at hx; subst hx; exact HIN.out.kind)
        have hVl : V.length ≤ 8 := by rw [hV]; have := vencs_len (l := [m.kind]) (by intro x hx; simp at hx; subst hx; exact HIN.out.kind); simpa using this
        obtain ⟨Y, hY⟩ : ∃ Y, Y = V ++ [(P.length : Int) / 256, (P.length : Int) % 256] := ⟨_, rfl⟩
        obtain ⟨X, hX⟩ : ∃ X, X = refB m := ⟨_, rfl⟩
        have HXY := Lib.hid (show X = Y ++ P by rw [hX, hY, refB, ← hPB, hV, List.append_assoc])
        have hYl : Y.length ≤ 10 := by rw [hY, List.length_append]; simp; omega
        have HY := Lib.hid hY
        have HX := Lib.hid hX
        have CN2 := Lib.hid CN
        have q1 : IntKind.u8.wrap ((P.length : Int) / 256) = (P.length : Int) / 256 := by rw [IntKind.wrap_u8]; omega
        have q2 : IntKind.u8.wrap ((P.length : Int) % 256) = (P.length : Int) % 256 := by rw [IntKind.wrap_u8]; omega
        clear hps km HI hP hPB hV hY hX CN I0
        go_wp2_with fail
        refine CN2.out.mono ?_
        rintro e w2 ⟨A2, c2, rfl, o2, b2⟩
        have bal := ((Below.refl wr.heap.size wr).alloc (Nat.le_refl _) (.cells #[.int .u64 m.kind] 22)).trans (b2.mono (by simp))
        have O2 := Lib.hid (Own.base_leW o2 (show wr.heap.size ≤ _ by simp))
        have P2 := Lib.hid (Own.below PR.out bal)
        have B2 := Lib.hid bal
        have HLT := Lib.hid (show ∀ kk, (Value.slice A P.length c).ownBlock = some kk → kk < wr.heap.size from fun kk hk => OwnV.row_lt (show OwnV wr B0 5 1 A c P.length (U8 P) from PR.out) hk)
        clear o2 b2 bal CN2 PR
        have LT := Lib.hid ((Below.refl w2.heap.size w2).alloc (Nat.le_refl _) (.cells #[.int .u8 ((P.length : Int) / 256), .int .u8 ((P.length : Int) % 256)] 5))
        go_wp2_with (at_builtin
                     go_must (first
                       | (refine wpList_appW rfl (.tmp 147) (.tmp 156) rfl wr.heap.size (l := V) (news := [(P.length : Int) / 256, (P.length : Int) % 256]) Y HY.out rfl rfl (Own.below O2.out LT.out) (Rd.of_own (own_lit2E w2 ((P.length : Int) / 256) ((P.length : Int) % 256) (Nat.le_refl _))) (by simp; omega) (Nat.le_trans B2.out.size LT.out.size) ?_
                          intro A3 c3 w3 o3 g3 b3
                          have O3 := Lib.hid o3
                          have B3 := Lib.hid ((LT.out.mono B2.out.size).trans b3)
                          have P3 := Lib.hid (OwnV.apart (show OwnV _ B0 5 1 A c P.length (U8 P) from Own.below P2.out LT.out) g3 (fun kk hk e => by have h1 := HLT.out kk hk; have h2 := OwnV.row_ge (show OwnV _ wr.heap.size 5 1 A2 c2 V.length (U8 V) from O2.out) kk e; omega))
                          clear o3 g3 b3)
                       | (refine wpList_appW rfl (.tmp 157) (.tmp 158) rfl wr.heap.size (l := Y) (news := P) X HXY.out rfl rfl O3.out (Rd.of_own P3.out) (by omega) (Nat.le_trans B2.out.size B3.out.size) ?_
                          intro A4 c4 w4 o4 g4 b4
                          have O4 := Lib.hid o4
                          have B4 := Lib.hid (B2.out.trans (B3.out.trans b4))
                          clear o4 g4 b4)))
        rw [HP.out]
        exact ⟨fun _ => ⟨A4, c4, by rw [← HX.out]; rfl, by rw [← HX.out]; exact Own.base_leW O4.out BR.out.size⟩, fun h => (by rw [← HRT.out] at h; cases h), BR.out.trans (B4.out.mono BR.out.size)⟩
end Go.Proofs.YtfedofoadfipcaaDoor
