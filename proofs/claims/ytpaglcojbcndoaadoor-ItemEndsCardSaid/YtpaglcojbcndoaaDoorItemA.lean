/-
  item: encodable, numbers; append with a result told by name.
-/
import Derived.Test.YtpaglcojbcndoaaDoorVintE
import Derived.Test.YtpaglcojbcndoaaDoorStepV
import Derived.Test.YtpaglcojbcndoaaDoorEnvBits
import Derived.Test.YtpaglcojbcndoaaDoorFlat
namespace Go.Proofs.YtpaglcojbcndoaaDoor
open Go.RowKit
set_option linter.unusedVariables false
set_option linter.unusedSimpArgs false
/-- A number that has an encoding. -/
def InI (x : Int) : Prop := 0 ≤ x ∧ x < 4611686018427387904
def iencs (l : List Int) : List Int := l.flatMap venc
theorem iencs_take {l : List Int} {k : Nat} {x : Int} (hx : l[k]? = some x) : iencs (l.take (k + 1)) = iencs (l.take k) ++ venc x := by
  unfold iencs
  rw [List.take_add_one, hx]
  simp
theorem venc8I {x : Int} (h : InI x) : (venc x).length ≤ 8 := (venc_le x h.1 h.2).2.1
theorem iencs_len {l : List Int} (h : ∀ x ∈ l, InI x) : (iencs l).length ≤ 8 * l.length := by
  induction l with
  | nil => simp [iencs]
  | cons x l ih =>
    have h1 := venc8I (h x (by simp))
    have h2 := ih (fun y hy => h y (by simp [hy]))
    unfold iencs at h2 ⊢
    simp only [List.flatMap_cons, List.length_append, List.length_cons]
    omega
theorem iencs_by {l : List Int} (h : ∀ x ∈ l, InI x) : Bytes (iencs l) := by
  intro y hy
  obtain ⟨x, hx, hy⟩ := List.mem_flatMap.1 hy
  exact (venc_le x (h x hx).1 (h x hx).2).2.2 y hy
theorem wpList_appI {ops : Array Oper} {rest : List Oper} {o : Oper} {a : Act} {w : World} {Q : Exit → Act → World → Prop} (hgd : o.guard = none) (s x : Operand)
    (ho : o.op = .call { callee := .builtin .append, args := #[s, x], argTypes := #[25, 25] })
    (base : Nat) {c d : Nat} {A B : Option Addr} {l news : List Int} (X : List Int) (hX : X = l ++ news) (hs : a.eval s = .slice A l.length c) (hx : a.eval x = .slice B news.length d) (hown : Own w base A c l) (hr : Rd w B news)
    (hlen : l.length + news.length ≤ 70368744177664) (hbase : base ≤ w.heap.size)
    (h : ∀ A' c' w', Own w' base A' c' X → w.grownBy w' (Value.slice A l.length c).ownBlock → Below base w w' → wpList Tryd.prog ops Q rest (a.put o.dst (.slice A' X.length c')) w') : wpList Tryd.prog ops Q (o :: rest) a w := by
  subst hX
  refine wpList_app hgd s x ho base hs hx hown hr hlen hbase ?_
  intro A' c' w' h1 h2 h3
  have := h A' c' w' h1 h2 h3
  rwa [List.length_append] at this
theorem step_appI {ops : Array Oper} {o : Oper} {a : Act} {w : World} {K : Act → World → Prop} {Q : Exit → Act → World → Prop} (hgd : o.guard = none) (s x : Operand)
    (ho : o.op = .call { callee := .builtin .append, args := #[s, x], argTypes := #[25, 25] })
    (base : Nat) {c d : Nat} {A B : Option Addr} {l news : List Int} (X : List Int) (hX : X = l ++ news) (hs : a.eval s = .slice A l.length c) (hx : a.eval x = .slice B news.length d) (hown : Own w base A c l) (hr : Rd w B news)
    (hlen : l.length + news.length ≤ 70368744177664) (hbase : base ≤ w.heap.size)
    (h : ∀ A' c' w', Own w' base A' c' X → Below base w w' → K (a.put o.dst (.slice A' X.length c')) w') :
    if Region.wanted o (yielded ops a.tmps) = true then Oper.wp Tryd.prog o a w K Q else K (a.put o.dst undef) w := by
  subst hX
  refine step_appV hgd s x 25 5 1 1 (.int .u8 0) ho Tryd.underlying25 info_u8 rfl (by omega) base hs hx hown hr (by intro u hu; simp only [U8, List.mem_map] at hu; obtain ⟨x, _, rfl⟩ := hu; rfl) (by unfold maxLen; omega) (by omega) hbase ?_
  intro A' c' w' h1 h2 h3 _
  have := h A' c' w' (by unfold Own; rw [show U8 (l ++ news) = U8 l ++ U8 news by simp [U8], List.length_append]; exact h1) h3
  rwa [List.length_append] at this
theorem numbers_any (A : Option Addr) (c : Nat) (l : List Int) (w : World) (ht : Tab w) (hr : RdI .u64 w A l) (hl : l.length ≤ 1000) (hw : ∀ x ∈ l, InI x) :
    Calls Tryd.prog 35 #[.slice A l.length c] w fun r w' => ∃ A' c', r = .returned (.slice A' (iencs l).length c') ∧ Own w' w.heap.size A' c' (iencs l) ∧ Below w.heap.size w w' := by
  have HR := Lib.hid hr
  obtain ⟨F, hF⟩ : ∃ F : Nat → List Int, F = fun k => iencs (l.take k) := ⟨_, rfl⟩
  have HN := Lib.hid (fun (x : Int) (hx : InI x) w1 (hb : Below w.heap.size w w1) => num_ok x w1 (ht.below hb) hx.1 hx.2)
  have HW := Lib.hid (fun (k : Nat) (x : Int) (hx : l[k]? = some x) => hw x (List.mem_of_getElem? hx))
  have HFS := Lib.hid (fun (k : Nat) (x : Int) (hx : l[k]? = some x) => show F (k + 1) = F k ++ venc x by rw [hF]; exact iencs_take hx)
  have HFL := Lib.hid (show ∀ k, (F k).length ≤ 8000 by
    intro k
    rw [hF]
    have := iencs_len (l := l.take k) (fun x h => hw x (List.mem_of_mem_take h))
    rw [List.length_take] at this
    simp only
    omega)
  have F0 := Lib.hid (show F 0 = [] by rw [hF]; rfl)
  have FL := Lib.hid (show F l.length = iencs l by rw [hF]; simp)
  clear hr hw hF ht
  go_enter Tryd.func35, Tryd.ntmps35
  go_wp2_with fail
  go_loopw [3, 10] (fun pv iv wr => ∃ (k : Nat) (A' : Option Addr) (c' : Nat), pv = .slice A' (F k).length c' ∧ iv = .int .i64 k ∧ k ≤ l.length ∧ Hid (Own wr w.heap.size A' c' (F k) ∧ Below w.heap.size w wr)) (fun _ iv _ => l.length - (intOf iv).toNat)
  case atStart => exact ⟨0, none, 0, by rw [F0.out]; rfl, rfl, by omega, Lib.hid ⟨by rw [F0.out]; exact Own.nil _ _, Below.refl _ _⟩⟩
  case round =>
    obtain ⟨k, A2, c2, rfl, rfl, hk, HI⟩ := hrel
    rename World => wr
    by_cases hlt : k < l.length
    · obtain ⟨bk, off, y, rfl, hb, hy, hc⟩ := (RdI.below HR.out HI.out.2).at_ hlt
      have N2 := Lib.hid (HN.out y (HW.out k y hy) wr HI.out.2)
      have hv8 : (venc y).length ≤ 8 := venc8I (HW.out k y hy)
      obtain ⟨v, hv⟩ : ∃ v, v = venc y := ⟨_, rfl⟩
      obtain ⟨P, hP⟩ : ∃ P, P = F k := ⟨_, rfl⟩
      obtain ⟨X, hX⟩ : ∃ X, X = F (k + 1) := ⟨_, rfl⟩
      have HX := Lib.hid (show X = P ++ v by rw [hX, HFS.out k y hy, hP, hv])
      have HXE := Lib.hid hX
      have hPl : P.length ≤ 8000 := by rw [hP]; exact HFL.out k
      rw [← hv] at N2 hv8
      rw [← hP] at HI ⊢
      clear hy hv hP hX
      go_wp2_with fail
      refine N2.out.mono ?_
      rintro e w2 ⟨A3, c3, rfl, o3, b3⟩
      have O3 := Lib.hid o3
      have P3 := Lib.hid (Own.below HI.out.1 b3)
      have B3 := Lib.hid (HI.out.2.trans (b3.mono HI.out.2.size))
      clear o3 b3 N2 HI
      go_wp2_with (at_builtin
                   go_must (refine wpList_appI rfl (.tmp 19) (.tmp 20) rfl w.heap.size (l := P) (news := v) X HX.out rfl rfl P3.out (Rd.of_own O3.out) (by omega) B3.out.size ?_)
                   intro A4 c4 w4 o4 g4 b4
                   have O4 := Lib.hid o4
                   have B4 := Lib.hid (B3.out.trans b4)
                   clear o4 g4 b4)
      go_roundw
      case rel => exact ⟨k + 1, A4, c4, by rw [← HXE.out], by go_num, by omega, Lib.hid (by rw [← HXE.out]; exact ⟨O4.out, B4.out⟩)⟩
      case measure => simp [intOf]; omega
    · have hd : decide (k < l.length) = false := by simpa using hlt
      have hkl : k = l.length := by omega
      subst hkl
      have hi := HI.out
      rw [FL.out] at hi ⊢
      have HB := Lib.hid hi
      clear hi HI
      go_wp2_with fail
      go_ret
      exact ⟨A2, c2, rfl, HB.out⟩
def encI (l : List Int) : Bool := l.all fun x => decide (x ≤ 4611686018427387903)
theorem encI_all {l : List Int} (h : encI l = true) (h0 : ∀ x ∈ l, 0 ≤ x) : ∀ x ∈ l, InI x := fun x hx => by
  have := List.all_eq_true.1 h x hx
  simp at this
  exact ⟨h0 x hx, by omega⟩
theorem encodableI_any (A : Option Addr) (c : Nat) (l : List Int) (w : World) (hr : RdI .u64 w A l) (hl : l.length ≤ 1000) :
    Calls Tryd.prog 34 #[.slice A l.length c] w fun r w' => r = .returned (.bool (encI l)) ∧ w = w' := by
  have HR := Lib.hid hr
  clear hr
  obtain ⟨R, hR⟩ : ∃ R, R = encI l := ⟨_, rfl⟩
  have HY := Lib.hid (show (∀ (j : Nat) (y : Int), l[j]? = some y → y ≤ 4611686018427387903) → R = true from fun h => by
    rw [hR]
    refine List.all_eq_true.2 fun x hx => ?_
    obtain ⟨j, hj⟩ := List.getElem?_of_mem hx
    simpa using h j x hj)
  have HNO := Lib.hid (show ∀ (j : Nat) (y : Int), l[j]? = some y → 4611686018427387903 < y → R = false from fun j y hj hy => by
    rw [hR, Bool.eq_false_iff]
    intro e
    have := List.all_eq_true.1 e y (List.mem_of_getElem? hj)
    simp at this
    omega)
  rw [← hR]
  clear hR
  go_enter Tryd.func34, Tryd.ntmps34
  go_wp2_with fail
  go_loopw [7] (fun iv wr => ∃ (k : Nat), iv = .int .i64 k ∧ k ≤ l.length ∧ wr = w ∧ Hid (∀ (j : Nat) (y : Int), j < k → l[j]? = some y → y ≤ 4611686018427387903)) (fun iv _ => l.length - (intOf iv).toNat)
  case atStart => exact ⟨0, rfl, by omega, by first | rfl | trivial, Lib.hid (fun j y h => by omega)⟩
  case round =>
    obtain ⟨k, rfl, hk, rfl, HI⟩ := hrel
    by_cases hlt : k < l.length
    · obtain ⟨bk, off, y, rfl, hb, hy, hc⟩ := HR.out.at_ hlt
      by_cases hm : y ≤ 4611686018427387903
      · have HI2 := Lib.hid (show ∀ (j : Nat) (z : Int), j < k + 1 → l[j]? = some z → z ≤ 4611686018427387903 from fun j z hj hz => by
          rcases Nat.lt_or_ge j k with h | h
          · exact HI.out j z h hz
          · have : j = k := by omega
            subst this
            rw [hy] at hz
            injection hz with hz
            omega)
        have hg : decide ((4611686018427387903 : Int) < y) = false := by simp; omega
        clear hy HI
        go_wp2_with fail
        go_roundw
        case rel => exact ⟨k + 1, by go_num, by omega, by first | rfl | trivial, HI2⟩
        case measure => simp [intOf]; omega
      · have hRf := HNO.out k y hy (by omega)
        have hg : decide ((4611686018427387903 : Int) < y) = true := by simp; omega
        subst hRf
        clear hy HI HY HNO
        go_wp2_with fail
        go_ret
        exact ⟨rfl, rfl⟩
    · have hd : decide (k < l.length) = false := by simpa using hlt
      have hkl : k = l.length := by omega
      have hRt := HY.out (fun j y hj => by
        rcases Nat.lt_or_ge j k with h | h
        · exact HI.out j y h hj
        · rw [List.getElem?_eq_none (by omega)] at hj; cases hj)
      subst hRt
      clear HI HY HNO
      go_wp2_with fail
      go_ret
      exact ⟨rfl, rfl⟩
end Go.Proofs.YtpaglcojbcndoaaDoor
