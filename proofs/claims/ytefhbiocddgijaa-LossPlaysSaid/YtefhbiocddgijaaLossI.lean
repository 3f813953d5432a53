/-
  Clear; sent; the law's first question.
-/
import Derived.Test.YtefhbiocddgijaaLossH
namespace Go.Proofs.Ytefhbiocddgijaa
open Go.RowKit
set_option linter.unusedVariables false
set_option linter.unusedSimpArgs false

theorem clear1_any (p : PK) (w : World) : Calls Try.prog 28 #[.agg #[.int .u64 p.nu, .int .u64 p.se, .int .i64 p.si, .bool p.aq]] w fun e w' => e = .returned (.bool true) ∧ w.grownBy w' none := by
  go_enter Try.func28, Try.ntmps28
  go_wp2_with fail
  go_ret
  exact ⟨rfl, World.grownBy_alloc w _ _⟩
theorem LClear_any (base g : Nat) (A : Option Addr) (c : Nat) (l : LG) (w : World) (h : Led w base g A c l) (hl : l.op.length ≤ 1000000) :
    Calls Try.prog 11 #[.pointer (some ⟨g, 0, none⟩)] w fun r w' => ∃ A1 c1, r = .returned (.slice A1 l.op.length c1) ∧ GoneTo w w' base g A l.op ⟨[], l.nx, l.ak, l.hs⟩ A1 c1 := by
  have z := h.lt
  have HRM : Calls Try.prog 25 #[.pointer (some ⟨g, 0, none⟩), .func (.func 28) #[] #[]] w fun r w' => ∃ A1 c1, r = .returned (.slice A1 l.op.length c1) ∧ GoneTo w w' base g A l.op ⟨[], l.nx, l.ak, l.hs⟩ A1 c1 := by
    rcases A with _ | a
    · refine (remove_nil _ _ base g c l w h).mono ?_
      rintro e w4 ⟨rfl, ho, h4, g4⟩
      refine ⟨none, 0, by rw [ho]; rfl, ⟨by rw [ho]; exact OwnF.nil _ _, ⟨⟨none, 0, by obtain ⟨op, nx, ak, hs⟩ := l; simp only at ho; subst ho; exact h4, fun _ h => h⟩, (Frm.refl _ _).grown g4 (fun r hr => by injection hr with hr; exact .inr (.inl hr.symm))⟩⟩⟩
    · obtain ⟨gp, rfl, hgp⟩ := h.some_
      refine (remove_some 28 #[] (fun _ => true) (fun _ _ => True) none base g gp c l w h ⟨enters_of Try.func28 (by kernel_rfl) rfl, ?_, ?_, fun r hr => by cases hr⟩ (by simp) trivial hl).mono ?_
      · intro k p W1 hk hC
        exact (clear1_any p W1).mono fun e w' h => ⟨h.1, trivial, h.2⟩
      · intro k W1 W2 hC hf
        trivial
      · rintro e w4 ⟨A1, c1, rfl, ho, h4, f4⟩
        have e1 : l.op.filter (fun _ => true) = l.op := by simp
        have e2 : l.op.filter (fun _ => !true) = [] := by simp
        rw [e1] at ho
        rw [e2] at h4
        refine ⟨A1, c1, by rw [e1], ⟨ho, ⟨⟨some ⟨gp, 0, none⟩, c, h4, fun _ h => h⟩, f4.mono (fun b _ hb => ?_)⟩⟩⟩
        rcases hb with h1 | h1 | h1
        · exact .inl h1
        · exact .inr (by simp [Value.ownBlock, h1])
        · cases h1
  have HR := Lib.hid HRM
  clear HRM h
  go_enter Try.func11, Try.ntmps11
  go_wp2_with fail
  refine HR.out.mono ?_
  rintro e w' ⟨A1, c1, rfl, hG⟩
  have HG := Lib.hid hG
  clear hG
  go_wp2_with fail
  go_ret
  exact ⟨A1, c1, rfl, HG.out⟩

def sentL (n : Nat) : List PK := (List.range n).map fun (i : Nat) => ⟨(i : Int) + 1, 5, 9, true⟩
def sentG (n : Nat) : LG := ⟨sentL n, if n = 0 then 0 else (n : Int) + 1, 0, false⟩
theorem sentL_succ (n : Nat) : sentL (n + 1) = sentL n ++ [⟨(n : Int) + 1, 5, 9, true⟩] := by simp [sentL, List.range_succ]
theorem sentL_length (n : Nat) : (sentL n).length = n := by simp [sentL]
theorem sent_send (n : Nat) (hn : n ≤ 1000) : sendE (sentG n) ⟨(n : Int) + 1, 5, 9, true⟩ = 0 ∧ lSend (sentG n) ⟨(n : Int) + 1, 5, 9, true⟩ = sentG (n + 1) := by
  have h1 : sendE (sentG n) ⟨(n : Int) + 1, 5, 9, true⟩ = 0 := sendE_0 _ _ (by simp only; omega) (by
    unfold sentG; simp only
    split <;> omega)
  refine ⟨h1, ?_⟩
  unfold lSend
  rw [if_pos h1]
  unfold sentG
  rw [sentL_succ]
  simp
theorem sent_ok (n : Nat) (hn : n ≤ 1000) : LgOk (sentG n) := by
  induction n with
  | zero => exact lgN_ok
  | succ n ih =>
    have := (sent_send n (by omega)).2
    rw [← this]
    exact lSend_ok (ih (by omega)) (by simp only; omega) (by simp) (by simp)
theorem sent_any (n : Nat) (w : World) (hn : n ≤ 1000) : Calls Try.prog 23 #[.int .u64 (n : Int)] w fun r w' => ∃ g A c, r = .returned (.pointer (some ⟨g, 0, none⟩)) ∧ Led w' w.heap.size g A c (sentG n) ∧ Below w.heap.size w w' := by
  go_enter Try.func23, Try.ntmps23
  go_wp2_with fail
  refine (LNew_any w w.heap.size (Nat.le_refl _)).mono ?_
  rintro e w1 ⟨g, rfl, h1, hg, b1⟩
  go_wp2_with fail
  go_loopw [7] (fun i wr => ∃ (k : Nat) (A : Option Addr) (c : Nat), k ≤ n ∧ i = .int .u64 k ∧ Led wr w.heap.size g A c (sentG k) ∧ Below w.heap.size w wr) (fun i _ => n - (intOf i).toNat)
  case atStart => exact ⟨0, none, 0, by omega, rfl, h1, b1⟩
  case round =>
    obtain ⟨k, A, c, hk, rfl, hL, hB⟩ := hrel
    clear h1 b1
    by_cases hlt : k < n
    · have hw1 : IntKind.u64.wrap ((k : Int) + 1) = (k : Int) + 1 := IntWalk.u64_in _ (by omega)
      obtain ⟨e1, e2⟩ := sent_send k (by omega)
      have HS := LSend_any w.heap.size g A c (sentG k) ⟨(k : Int) + 1, 5, 9, true⟩ wr hL hB.size (by simp only; omega) (by show (sentL k).length ≤ _; rw [sentL_length]; omega)
      rw [e1, e2] at HS
      have HSS := Lib.hid HS
      have HL := Lib.hid hL
      have HBB := Lib.hid hB
      clear HS e1 e2 hL hB
      go_wp2_with fail
      refine HSS.out.mono ?_
      rintro e w2 ⟨rfl, ⟨A', c', h2, h3⟩, f2⟩
      have hle : ∀ b, b < w.heap.size → ¬ LedS g A b := fun b hb hs => by
        rcases hs with h | h
        · omega
        · have := OwnV.row_ge' HL.out.own (k := b) (by rw [← h]; exact ownBlock_len _ _ _ _ _)
          omega
      have H2 := Lib.hid h2
      have B2 := Lib.hid (HBB.out.trans (f2.below HBB.out.size hle))
      clear h2 h3 f2 hle
      go_wp2_with fail
      go_roundw
      case rel => exact ⟨k + 1, A', c', by omega, by go_num, H2.out, B2.out⟩
      case measure => simp [intOf]; omega
    · have hd : decide (k < n) = false := by simpa using hlt
      obtain rfl : k = n := by omega
      go_wp2_with fail
      go_ret
      exact ⟨g, A, c, rfl, hL, hB⟩

/-- What holds of a row that a call on the ledger returned: it is apart from the ledger. -/
theorem GoneTo.apart {w w' : World} {base g : Nat} {A : Option Addr} {c : Nat} {out : List PK} {l l' : LG} {A1 : Option Addr} {c1 : Nat} (h : GoneTo w w' base g A out l' A1 c1) (hL : Led w base g A c l) : ∀ b, LedS g A b → (Value.slice A1 out.length c1).ownBlock ≠ some b := by
  intro b hb e
  have h1 := OwnV.row_ge' h.own e
  rcases hb with h2 | h2
  · have := hL.lt; omega
  · have := OwnV.row_lt hL.own (k := b) (by rw [← h2]; exact ownBlock_len _ _ _ _ _)
    omega
theorem OwnP.at0 {w : World} {base : Nat} {A : Option Addr} {c : Nat} {l : List PK} {i : Nat} {p : PK} (h : OwnP w base A c l) (hx : l[i]? = some p) : ∃ b off, A = some ⟨b, off, none⟩ ∧ b < w.heap.size ∧ ∀ j, j < 4 → w.cell? ⟨b, off + (i * 4 + j), none⟩ = (PkC p)[j]? := by
  have hi : i < l.length := by
    rcases Nat.lt_or_ge i l.length with h | h
    · exact h
    · rw [List.getElem?_eq_none h] at hx; cases hx
  obtain ⟨b, off, x, h1, h2, h3, h4⟩ := RdF.at_ PkC_len (by omega) (OwnF.reads h) hi
  rw [hx] at h3
  injection h3 with h3
  subst h3
  exact ⟨b, off, h1, h2, h4⟩
def aw1 : LG := lAck (sentG 4) [(4, 4)]
def aw2 : LG := lLost aw1 6 9
set_option maxRecDepth 100000 in
theorem awake9_any (w : World) : Calls Try.prog 4 #[] w fun r w' => r = .returned (.bool true) ∧ Below w.heap.size w w' := by
  go_enter Try.func4, Try.ntmps4
  go_wp2_with fail
  refine (sent_any 4 _ (by omega)).mono ?_
  rintro e w1 ⟨g, A, c, rfl, h1, b1⟩
  have zg := h1.le
  obtain ⟨W, hW⟩ : ∃ W, W = w1.alloc (.cells #[.int .u64 4, .int .u64 4] 61) := ⟨_, rfl⟩
  have bW : Below w1.heap.size w1 W := by rw [hW]; exact (Below.refl _ _).alloc (Nat.le_refl _) _
  have zW : W.heap.size = w1.heap.size + 1 := by rw [hW]; simp
  have hr : RdG W (some ⟨w1.heap.size, 0, none⟩) [(4, 4)] := by
    rw [hW]
    refine ⟨rfl, fun _ => ⟨_, rfl, by simp, ?_⟩⟩
    exact two_new w1 _ _ _
  have HA := Lib.hid (LAck_any w.heap.size g A c (sentG 4) (some ⟨w1.heap.size, 0, none⟩) 1 [(4, 4)] W (h1.below bW) (sent_ok 4 (by omega)) hr (fun a ha _ => by injection ha with ha; rw [← ha]; have := h1.lt; simp; omega) (fun x hx => by simp at hx; subst hx; exact ⟨⟨by omega, by omega⟩, ⟨by omega, by omega⟩⟩) (by have := b1.size; omega) (by show (sentL 4).length ≤ _; rw [sentL_length]; omega) (by simp))
  have H1 := Lib.hid h1
  have B1 := Lib.hid (b1.trans (bW.mono b1.size))
  clear h1 b1 hr bW
  go_wp2_with fail
  rw [← hW]
  clear hW
  refine HA.out.mono ?_
  rintro e w2 ⟨A1, c1, rfl, hO, ⟨⟨A2, c2, h2, s2⟩, f2⟩⟩
  rw [show ackE (sentG 4) [(4, 4)] = 0 by decide, show (ackL (sentG 4) [(4, 4)]).length = 1 by decide]
  clear HA
  have hle : ∀ b, b < w.heap.size → ¬ LedS g A b := fun b hb hs => by
    rcases hs with h | h
    · omega
    · have := OwnV.row_ge' H1.out.own (k := b) (by rw [← h]; exact ownBlock_len _ _ _ _ _)
      omega
  have b2 := B1.out.trans (f2.below B1.out.size hle)
  have ok2 : LgOk aw1 := lAck_ok (sent_ok 4 (by omega))
  have HB := Lib.hid (LLost_any w.heap.size g A2 c2 aw1 6 9 w2 h2 ok2 ⟨by omega, by omega⟩ (by decide))
  have H2 := Lib.hid h2
  have B2 := Lib.hid b2
  have HLE := Lib.hid (fun b hb hs => hle b hb (s2 b hs) : ∀ b, b < w.heap.size → ¬ LedS g A2 b)
  clear h2 b2 f2 hO s2 hle
  go_wp2_with fail
  refine HB.out.mono ?_
  rintro e w3 ⟨A3, c3, rfl, h3⟩
  obtain ⟨⟨A4, c4, h4, s4⟩, f4⟩ := h3.to
  have hap := h3.apart H2.out
  have o3 := h3.own
  rw [show aw1.op.filter (lostP aw1 6 9) = [⟨1, 5, 9, true⟩] by kernel_rfl] at o3 hap ⊢
  have b3 := B2.out.trans (f4.below B2.out.size HLE.out)
  have ok3 : LgOk aw2 := lLost_ok 6 9 ok2
  have HC := Lib.hid (LLost_any w.heap.size g A4 c4 aw2 14 9 w3 h4 ok3 ⟨by omega, by omega⟩ (by decide))
  have H4 := Lib.hid h4
  have B3 := Lib.hid b3
  have O3 := Lib.hid o3
  have HAP := Lib.hid hap
  have S4 := Lib.hid s4
  clear h3 h4 f4 b3 o3 hap s4 HB
  simp only [List.length_cons, List.length_nil]
  go_wp2_with fail
  refine HC.out.mono ?_
  rintro e w4 ⟨A5, c5, rfl, h5⟩
  obtain ⟨⟨A6, c6, h6, s6⟩, f6⟩ := h5.to
  have o5 := h5.own
  rw [show aw2.op.filter (lostP aw2 14 9) = [⟨2, 5, 9, true⟩, ⟨3, 5, 9, true⟩] by kernel_rfl] at o5 ⊢
  have b4 := B3.out.trans (f6.below B3.out.size (fun b hb hs => HLE.out b hb (S4.out b hs)))
  have o3 : OwnP w4 w2.heap.size A3 c3 [⟨1, 5, 9, true⟩] := OwnV.frm O3.out f6 (fun k hk hs => HAP.out k (S4.out k hs) hk)
  obtain ⟨p3, q3, rfl, z3, r3⟩ := OwnP.at0 o3 (i := 0) rfl
  obtain ⟨p5, q5, rfl, z5, r5⟩ := OwnP.at0 o5 (i := 1) rfl
  have x3 := r3 0 (by omega)
  have x5 := r5 0 (by omega)
  simp [PkC] at x3 x5
  have B4 := Lib.hid b4
  clear h5 h6 f6 o5 o3 b4 HC r3 r5 s6
  simp only [List.length_cons, List.length_nil]
  go_wp2_with fail
  go_ret
  exact ⟨rfl, B4.out⟩
end Go.Proofs.Ytefhbiocddgijaa
