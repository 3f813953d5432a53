/-
  The reference's quilt: Take, Held.
-/
import Derived.Test.YtdafeokjedmnkaaDoorQuiltS
namespace Go.Proofs.YtdafeokjedmnkaaDoor
open Go.RowKit Go.Maps
set_option linter.unusedVariables false
set_option linter.unusedSimpArgs false
def lenOf : Value → Nat
  | .slice _ n _ => n
  | _ => 0
theorem lenOf_slice (A : Option Addr) (n c : Nat) : lenOf (.slice A n c) = n := rfl
/-- So many different numbers below n there are at most. -/
theorem bounded_len : ∀ (n : Nat) (T : List Int), T.Nodup → (∀ x ∈ T, 0 ≤ x ∧ x < n) → T.length ≤ n
  | 0, [], _, _ => Nat.le_refl _
  | 0, x :: T, _, h => by have := h x (by simp); omega
  | n + 1, T, hn, h => by
    by_cases hm : (n : Int) ∈ T
    · have h1 := bounded_len n (T.erase (n : Int)) (hn.erase _) (fun x hx => by
        have h2 := h x (List.mem_of_mem_erase hx)
        have h3 : x ≠ (n : Int) := fun e => by
          subst e
          exact (List.Nodup.not_mem_erase hn) hx
        omega)
      rw [List.length_erase_of_mem hm] at h1
      omega
    · have h1 := bounded_len n T hn (fun x hx => by
        have h2 := h x hx
        have h3 : x ≠ (n : Int) := fun e => hm (e ▸ hx)
        omega)
      omega
theorem filter_two (p : Int → Bool) : ∀ T : List Int, (T.filter p).length + (T.filter (fun x => !p x)).length = T.length
  | [] => rfl
  | x :: T => by
    have h := filter_two p T
    cases hp : p x <;> simp [List.filter_cons, hp] <;> omega
/-- What lies at rd and above. -/
theorem above_len {s : QS} (ok : QOk s) : ((s.T.filter (fun x => decide (s.rd ≤ x))).length : Int) = s.T.length - s.rd := by
  have h1 := filter_two (fun x => decide (s.rd ≤ x)) s.T
  have r0 := ok.r0
  have r1 := ok.r1
  have h2 : (s.T.filter (fun x => !decide (s.rd ≤ x))).length = s.rd.toNat := by
    apply Nat.le_antisymm
    · exact bounded_len _ _ (ok.came.nd.filter _) (fun x hx => by
        rw [List.mem_filter] at hx
        have h3 := ok.came.pos x ((ok.came.mem x).1 hx.1)
        have h4 := hx.2
        simp at h4
        omega)
    · exact range_sub _ _ (fun x h3 h4 => by
        rw [List.mem_filter]
        refine ⟨(ok.came.mem x).2 (ok.whl x h3 (by omega)), ?_⟩
        simp
        omega)
  omega
theorem filter_step {p q : Int → Bool} {x : Int} : ∀ {T : List Int}, T.Nodup → x ∈ T → (∀ y, y ≠ x → p y = q y) → p x = false → q x = true → (T.filter q).length = (T.filter p).length + 1
  | [], _, hm, _, _, _ => by cases hm
  | z :: T, hn, hm, h, hp, hq => by
    obtain ⟨h1, h2⟩ := List.nodup_cons.1 hn
    by_cases hz : z = x
    · subst hz
      rw [List.filter_cons_of_pos hq, List.filter_cons_of_neg (by simp [hp])]
      have : T.filter q = T.filter p := List.filter_congr fun y hy => (h y (fun e => h1 (e ▸ hy))).symm
      rw [this]
      rfl
    · have hm' : x ∈ T := by
        rcases List.mem_cons.1 hm with e | e
        · exact absurd e.symm hz
        · exact e
      have := filter_step h2 hm' h hp hq
      rw [List.filter_cons, List.filter_cons, h z hz]
      split
      · rw [List.length_cons, List.length_cons]
        omega
      · exact this
theorem own_notV {w : World} {base c n m B : Nat} {A : Option Addr} {l T : List Int} {f : Int → Option Int} (h : Own w base A c l) (hb : MapV w B m f T) : some B ≠ (Value.slice A n c).ownBlock := by
  intro e
  rw [ownBlock_len A n l.length c c] at e
  obtain ⟨_, cs', hb'⟩ := own_row h e.symm
  exact hb.ne hb' rfl
theorem MapV.set' {w : World} {B n x : Nat} {f : Int → Option Int} {T : List Int} (h : MapV w B n f T) (hx : x ≠ B) (i : Nat) (u : Value) : MapV (w.setCell ⟨x, i, none⟩ u) B n f T := h.kept (gb_set (gb_refl _ _) (p := ⟨x, i, none⟩) rfl _) (by intro e; injection e with e; exact hx e.symm)
theorem U8_snoc (l : List Int) (b : Int) : U8 l ++ [.int .u8 b] = U8 (l ++ [b]) := by simp [U8]
set_option maxHeartbeats 1600000 in
theorem rTake_any (x B n : Nat) (s : QS) (most : Int) (N : Nat) (w : World) (h : RQ w x B n s) (ok : QOk s) (hm : (Lit.int .i64 most).wf = true) (hT : s.T.length ≤ 1000000) (hN : N = takeN s most) :
    Calls Tryd.prog 16 #[.pointer (some ⟨x, 0, none⟩), .int .i64 most] w fun r w' => (∃ A c, r = .returned (.tuple #[.slice A N c, .bool (s.en && decide (s.rd + N = s.hi))]) ∧ Own w' w.heap.size A c (tk s.f s.rd N)) ∧ RQ w' x B n (qTake s N) ∧ Two w w' x B := by
  have r0 := ok.r0
  have r1 := ok.r1
  have w1 := ok.w1
  have h1' := ok.h1
  have hwl : s.wh ≤ s.T.length := ok.came.len ok.whl
  have hN' : (N : Int) = min (max most 0) (s.wh - s.rd) := by rw [hN]; unfold takeN; omega
  have hNw : s.rd + (N : Int) ≤ s.wh := by omega
  have hxB : x ≠ B := h.m.ne h.q
  have HOK := Lib.hid ok
  have H := Lib.hid h
  have RY := rReady_any x B n s w h ok hT
  have HDN := Lib.hid (fun W hh => rDone_any x B n (qTake s N) W hh)
  obtain ⟨Y, hY⟩ : ∃ Y, Y = s.wh - s.rd := ⟨_, rfl⟩
  rw [← hY] at RY hN'
  have hYb : Y ≤ 1000000 := by omega
  have hNY : (N : Int) ≤ Y := by omega
  have hNm : (N : Int) ≤ max most 0 := by omega
  have HN' := Lib.hid hN'
  have HYH := Lib.hid hY
  have hmo : N ≠ 0 → (N : Int) ≤ most := fun h => by omega
  clear h ok hN hm hN' hY hNm
  go_enter Tryd.func16, Tryd.ntmps16
  go_wp2_with fail
  refine RY.mono ?_
  rintro r w2 ⟨rfl, kk, rfl⟩
  clear RY
  go_wp2_with fail
  go_loopw [6] (fun q wr => ∃ (k : Nat) (A : Option Addr) (c : Nat), k ≤ N ∧ q = .slice A k c ∧ Hid (Own wr w.heap.size A c (tk s.f s.rd k)) ∧ Hid (RQ wr x B n s) ∧ Hid (Two w wr x B)) (fun q _ => N - lenOf q)
  case atStart => exact ⟨0, none, 0, by omega, rfl, Lib.hid (OwnV.nil _ _ _ _), Lib.hid (H.out.drewN kk), Lib.hid ((Two.refl _ _ _).drewN kk)⟩
  case round =>
    obtain ⟨k, A, c, hk, rfl, O, R, TW⟩ := hrel
    by_cases hlt : k < N
    · have hd1 : decide ((k : Int) < Y) = true := by simp; omega
      have hd2 : decide ((k : Int) < most) = true := by simp; omega
      have c0 := (R.out.drewN 1).q.cell 0
      have c1 := (R.out.drewN 1).q.cell 1
      simp [XV] at c0 c1
      have wk : IntKind.u64.wrap (k : Int) = (k : Int) := IntWalk.u64_in _ (by omega)
      have wx : IntKind.u64.wrap (s.rd + (k : Int)) = s.rd + (k : Int) := IntWalk.u64_in _ (by omega)
      have L := (R.out.drewN 1).m.look1 (x := s.rd + (k : Int)) (WalkArith.wf_u64 (by omega))
      obtain ⟨b, hb⟩ : ∃ b, b = (s.f (s.rd + (k : Int))).getD 0 := ⟨_, rfl⟩
      rw [← hb] at L
      have L : (Instr.lookup 48 (.map (some B)) (.int .u64 (s.rd + (k : Int))) false).run Tryd.prog wr.drew = .ok (.int .u8 b) wr.drew := L
      have HBB := Lib.hid hb
      have htk : tk s.f s.rd (k + 1) = tk s.f s.rd k ++ [b] := by
        rw [tk_add, hb]
        simp [tk]
      have OW : OwnV (wr.drewN 1) w.heap.size 5 1 A c k (U8 (tk s.f s.rd k)) := by
        have h := O.out
        unfold Own at h
        rw [tk_len] at h
        exact h
      have HOW := Lib.hid OW
      have HTK := Lib.hid htk
      have HO := Lib.hid (show Own (wr.drewN 1) w.heap.size A c (tk s.f s.rd k) from O.out)
      have hz : w.heap.size ≤ (wr.drewN 1).heap.size := TW.out.size
      clear hb OW O htk
      go_wp2_with fail
      go_region_law (refine step_appV rfl (.tmp 22) (.tmp 36) 29 5 1 1 (.int .u8 0) rfl Tryd.underlying29 info_u8 rfl (by omega) w.heap.size (n := k) (m := 1) (xs := U8 (tk s.f s.rd k)) (news := [.int .u8 b]) (d := 1) rfl rfl (HOW.out.below ((Below.refl _ _).alloc (Nat.le_refl _) _)) (reads_one (wr.drewN 1) 5 _ 0) (by simp [Value.oneCell']) (by unfold maxLen; omega) (by omega) (Nat.le_trans hz (by simp)) ?_; intro A2 c2 w5 hown hg hb hrow)
      all_goals (
        have hg' : (wr.alloc (.cells #[.int .u8 b] 5)).grownBy w5 (Value.slice A k c).ownBlock := ⟨hg.os, hg.tape, hg.output, hg.size, hg.block⟩
        have hgr : wr.grownBy w5 (Value.slice A k c).ownBlock := gb_then ((World.grownBy_alloc wr (.cells #[.int .u8 b] 5) none).but _) hg'
        have O5 := Lib.hid (show Own w5 w.heap.size A2 c2 (tk s.f s.rd (k + 1)) by
          unfold Own
          rw [tk_len, HTK.out, ← U8_snoc]
          exact hown)
        have R5 := Lib.hid (show RQ w5 x B n s from ⟨R.out.q.grown hgr (own_not HO.out R.out.q (by decide)), R.out.m.kept hgr (own_notV HO.out R.out.m)⟩)
        have T5 := Lib.hid (TW.out.grown hgr (fun r e => .inr (.inr (HOW.out.row_ge r e))))
        clear hg hb hrow hown hg' hgr
        simp only [List.getElem_toArray, List.getElem_cons_succ, List.getElem_cons_zero, Act.put, List.setIfInBounds_toArray, List.set_cons_succ, List.set_cons_zero]
        go_roundw
        case rel => exact ⟨.slice A2 (k + 1) c2, _, _, _, _, _, _, _, _, _, _, _, _, _, _, _, _, _, _, _, _, _, _, _, _, _, _, ⟨k + 1, A2, c2, by omega, rfl, O5, R5, T5⟩, rfl⟩
        case measure => simp [lenOf]; omega)
    · obtain rfl : N = k := by omega
      have c1 := R.out.q.cell 1
      have f1 := R.out.q.frozen 1
      simp [XV] at c1
      have wk : IntKind.u64.wrap (N : Int) = (N : Int) := IntWalk.u64_in _ (by omega)
      have wx : IntKind.u64.wrap (s.rd + (N : Int)) = s.rd + (N : Int) := IntWalk.u64_in _ (by omega)
      have R2 := Lib.hid (show RQ (wr.setCell ⟨x, 1, none⟩ (.int .u64 (s.rd + (N : Int)))) x B n (qTake s N) from ⟨by
        have z := Blk.set_ R.out.q 1 (.int .u64 (s.rd + (N : Int)))
        simp [XV] at z
        exact z, R.out.m.set' hxB 1 _⟩)
      have T2 := Lib.hid (TW.out.set 1 (.int .u64 (s.rd + (N : Int))))
      have O2 := Lib.hid (show Own (wr.setCell ⟨x, 1, none⟩ (.int .u64 (s.rd + (N : Int)))) w.heap.size A c (tk s.f s.rd N) from OwnV.grown O.out (gb_set (gb_refl _ _) (p := ⟨x, 1, none⟩) rfl _) (fun q cur hq e => by injection e with e; exact Blk.ne_ R.out.q hq (by decide) e))
      have fin : ∀ W', (∃ k, W' = (wr.setCell ⟨x, 1, none⟩ (.int .u64 (s.rd + (N : Int)))).drewN k) → Own W' w.heap.size A c (tk s.f s.rd N) ∧ RQ W' x B n (qTake s N) ∧ Two w W' x B := by
        rintro _ ⟨k9, rfl⟩
        exact ⟨O2.out, R2.out.drewN k9, T2.out.drewN k9⟩
      have FIN := Lib.hid fin
      by_cases hc : (N : Int) < Y
      · have hd1 : decide ((N : Int) < Y) = true := by simpa using hc
        have hd2 : decide ((N : Int) < most) = false := by have := HN'.out; simp; omega
        clear O R TW fin
        go_wp2_with fail
        refine (HDN.out _ R2.out).mono ?_
        rintro r w9 ⟨rfl, hk9⟩
        have F9 := Lib.hid (FIN.out w9 hk9)
        clear hk9
        go_wp2_with fail
        exact bodyPost_ret (results_tmp2 rfl _ _ _) rfl ⟨⟨A, c, rfl, F9.out.1⟩, F9.out.2⟩
      · have hd1 : decide ((N : Int) < Y) = false := by simpa using hc
        clear O R TW fin
        go_wp2_with fail
        refine (HDN.out _ R2.out).mono ?_
        rintro r w9 ⟨rfl, hk9⟩
        have F9 := Lib.hid (FIN.out w9 hk9)
        clear hk9
        go_wp2_with fail
        exact bodyPost_ret (results_tmp2 rfl _ _ _) rfl ⟨⟨A, c, rfl, F9.out.1⟩, F9.out.2⟩
end Go.Proofs.YtdafeokjedmnkaaDoor
