/-
  The reference's quilt: Put of a piece that is let in; whatever it is.
-/
import Derived.Test.YtdafeokjedmnkaaDoorQuiltS
namespace Go.Proofs.YtdafeokjedmnkaaDoor
open Go.RowKit Go.Maps
set_option linter.unusedVariables false
set_option linter.unusedSimpArgs false
theorem XV_is {s s' : QS} {off : Int} {p : List Int} {e : Bool} (hp : PutTo s off p e s') (B : Nat) : XV B s' = #[.map (some B), .int .u64 s.rd, .int .u64 (max s.hi (off + p.length)), .int .u64 (if s.en || e then max s.hi (off + p.length) else 0), .bool (s.en || e)] := by
  unfold XV
  rw [hp.rd, hp.hi, hp.en]
theorem MapV.set {w : World} {B n x : Nat} {f : Int → Option Int} {T : List Int} (h : MapV w B n f T) (hx : x ≠ B) (i : Nat) (u : Value) : MapV (w.setCell ⟨x, i, none⟩ u) B n f T := h.kept (gb_set (gb_refl _ _) (p := ⟨x, i, none⟩) rfl _) (by intro e; injection e with e; exact hx e.symm)
set_option maxHeartbeats 3200000 in
theorem rPut_ok (x B n : Nat) (s : QS) (off : Int) (A : Option Addr) (c : Nat) (p : List Int) (e : Bool) (w : World) (h : RQ w x B n s) (ok : QOk s) (hr : Rd w A p) (hb : Bytes p) (hsep : ∀ ad, A = some ad → ad.block ≠ x ∧ ad.block ≠ B) (h0 : 0 ≤ off) (hl : p.length ≤ 100000) (hto : off + p.length ≤ 4611686018427387903)
    (hn : n ≤ 1000000000) (hfit : qFits s (off + p.length) e = true) :
    Calls Tryd.prog 14 #[.pointer (some ⟨x, 0, none⟩), .int .u64 off, .slice A p.length c, .bool e] w fun r w' => r = .returned (.int .i64 0) ∧ (∀ s', PutTo s off p e s' → RQ w' x B (n + p.length) s') ∧ Two w w' x B := by
  have w1 : IntKind.u64.wrap (p.length : Int) = (p.length : Int) := IntWalk.u64_in _ (by omega)
  have hd : decide (4611686018427387903 < off) = false := by simp; omega
  have c2 := h.q.cell 2
  have c3 := h.q.cell 3
  have c4 := h.q.cell 4
  simp [XV] at c2 c3 c4
  unfold qFits at hfit
  obtain ⟨to, hT⟩ : ∃ to, to = off + (p.length : Int) := ⟨_, rfl⟩
  have w2 : IntKind.u64.wrap (off + (p.length : Int)) = to := by rw [hT]; exact IntWalk.u64_in _ (by omega)
  rw [← hT] at hfit
  have hd2 : decide (4611686018427387903 < to) = false := by simp; omega
  have hxB : x ≠ B := h.m.ne h.q
  have H := Lib.hid h
  have HOK := Lib.hid ok
  have HR := Lib.hid hr
  have HB := Lib.hid hb
  have HS := Lib.hid hsep
  have HTO := Lib.hid hT
  have hto2 : to ≤ 4611686018427387903 := by omega
  obtain ⟨hi, hhi⟩ : ∃ hi, hi = s.hi := ⟨_, rfl⟩
  obtain ⟨en, hen⟩ : ∃ en, en = s.en := ⟨_, rfl⟩
  rw [← hhi] at c2 c3 hfit
  rw [← hen] at c3 c4 hfit
  have HH := Lib.hid (And.intro hhi hen)
  have ways : (en = false ∧ e = false ∧ hi < to) ∨ (en = false ∧ e = false ∧ to ≤ hi) ∨ (en = false ∧ e = true ∧ hi < to) ∨ (en = false ∧ e = true ∧ to = hi) ∨ (en = true ∧ e = false ∧ to ≤ hi) ∨ (en = true ∧ e = true ∧ to = hi) := by
    rcases en with _ | _ <;> rcases e with _ | _ <;> simp at hfit ⊢ <;> omega
  clear h ok hr hb hsep hT hfit hhi hen
  rcases ways with ⟨rfl, rfl, h1⟩ | ⟨rfl, rfl, h1⟩ | ⟨rfl, rfl, h1⟩ | ⟨rfl, rfl, h1⟩ | ⟨rfl, rfl, h1⟩ | ⟨rfl, rfl, h1⟩
  all_goals (
    simp only [Bool.false_eq_true, if_false, if_true] at c3
    have d1 : (decide (hi < to) = true ∧ hi < to) ∨ (decide (hi < to) = false ∧ to ≤ hi) := by
      by_cases h2 : hi < to
      · exact .inl ⟨by simpa using h2, h2⟩
      · exact .inr ⟨by simpa using h2, by omega⟩
    have d2 : (decide (to < hi) = true ∧ to < hi) ∨ (decide (to < hi) = false ∧ hi ≤ to) := by
      by_cases h2 : to < hi
      · exact .inl ⟨by simpa using h2, h2⟩
      · exact .inr ⟨by simpa using h2, by omega⟩
    have d3 : ((to == hi) = true ∧ to = hi) ∨ ((to == hi) = false ∧ to ≠ hi) := by
      by_cases h2 : to = hi
      · exact .inl ⟨by simpa using h2, h2⟩
      · exact .inr ⟨by simpa using h2, h2⟩
    rcases d1 with ⟨d1, d1'⟩ | ⟨d1, d1'⟩ <;> rcases d2 with ⟨d2, d2'⟩ | ⟨d2, d2'⟩ <;> rcases d3 with ⟨d3, d3'⟩ | ⟨d3, d3'⟩)
  all_goals first | (exfalso; omega) | skip
  all_goals first | subst d3' | skip
  all_goals (
    first
    | have HM := Lib.hid (show max hi to = to by omega)
    | have HM := Lib.hid (show max hi to = hi by omega)
    | have HM := Lib.hid (show max to to = to by omega))
  all_goals (
    go_enter Tryd.func14, Tryd.ntmps14
    go_wp2_with fail
    go_loopw [71] (fun i wr => ∃ k : Nat, k ≤ p.length ∧ i = .int .i64 k ∧ Hid (MapV wr B (n + k) (fput s.f off p k) (s.T ++ news s.f off k)) ∧ Hid (Blk wr x 50 (XV B s)) ∧ Hid (Two w wr x B)) (fun i _ => p.length - (intOf i).toNat)
    case atStart => exact ⟨0, by omega, rfl, Lib.hid (by rw [fput_0]; simpa [news] using H.out.m), Lib.hid H.out.q, Lib.hid (Two.refl _ _ _)⟩
    case round =>
      obtain ⟨k, hk, rfl, M, K, TW⟩ := hrel
      by_cases hlt : k < p.length
      · obtain ⟨b, o', xv, rfl, hbl, hx, hcx⟩ := RdI.at_ (show RdI .u8 wr A p from TW.out.rd HR.out HS.out) hlt
        have xb := HB.out xv (List.mem_of_getElem? hx)
        have HX := Lib.hid hx
        have q0 := K.out.cell 0
        simp [XV] at q0
        have wk : IntKind.u64.wrap (k : Int) = (k : Int) := IntWalk.u64_in _ (by omega)
        have wx : IntKind.u64.wrap (off + (k : Int)) = off + (k : Int) := IntWalk.u64_in _ (by omega)
        have hwx : (Lit.int .u64 (off + (k : Int))).wf = true := WalkArith.wf_u64 (by omega)
        have hwb : (Lit.int .u8 xv).wf = true := by simp [Lit.wf, IntKind.min, IntKind.max, IntKind.signed, IntKind.bits]; omega
        have L := M.out.look hwx
        rw [fput_next] at L
        by_cases hf : s.f (off + k) = none
        · rw [hf] at L
          simp only [Option.getD_none, Option.isSome_none] at L
          have HF := Lib.hid hf
          clear hx hf
          go_wp2_with (at_mapUpdate; go_must (refine wpList_mapV rfl (.tmp 94) (.tmp 95) (.tmp 96) rfl B (n + k) (fput s.f off p k) (s.T ++ news s.f off k) (off + (k : Int)) xv rfl rfl rfl hwx hwb (by rw [fput_next]; exact HF.out) M.out (by unfold maxLen; omega) ?_); intro w9 m9 g9)
          have M9 := Lib.hid m9
          have K9 := Lib.hid (K.out.grown g9 (by intro e; injection e with e; exact hxB e))
          have TW9 := Lib.hid (TW.out.grown g9 (fun r e => by injection e with e; exact .inr (.inl e.symm)))
          clear m9 g9
          go_roundw
          case rel =>
            refine ⟨k + 1, by omega, by go_num, Lib.hid ?_, K9, TW9⟩
            rw [fput_new HF.out HX.out, news_s, if_pos HF.out, ← List.append_assoc]
            exact M9.out
          case measure => simp [intOf]; omega
        · obtain ⟨y, hy⟩ := Option.ne_none_iff_exists'.1 hf
          rw [hy] at L
          simp only [Option.getD_some, Option.isSome_some] at L
          have HF := Lib.hid hf
          clear hx hf hy
          go_wp2_with fail
          go_roundw
          case rel =>
            refine ⟨k + 1, by omega, by go_num, Lib.hid ?_, K, TW⟩
            rw [fput_skip HF.out, news_s, if_neg HF.out, List.append_nil]
            exact M.out.mono (by omega)
          case measure => simp [intOf]; omega
      · obtain rfl : k = p.length := by omega
        have q2 := K.out.cell 2
        have q3 := K.out.cell 3
        have q4 := K.out.cell 4
        have f2 := K.out.frozen 2
        have f3 := K.out.frozen 3
        have f4 := K.out.frozen 4
        simp [XV] at q2 q3 q4
        rw [← HH.out.1] at q2
        go_wp2_with fail
        go_ret
        refine ⟨rfl, fun s' hp => ⟨?_, ?_⟩, ?_⟩
        · rw [XV_is hp, ← HTO.out, ← HH.out.1, ← HH.out.2]
          rw [HM.out]
          first
          | (have z := K.out; simp [XV, ← HH.out.1, ← HH.out.2] at z ⊢; exact z)
          | (have z := Blk.set_ K.out 2 (.int .u64 to); simp [XV, ← HH.out.1, ← HH.out.2] at z ⊢; exact z)
          | (have z := Blk.set_ (Blk.set_ K.out 3 (.int .u64 to)) 4 (.bool true); simp [XV, ← HH.out.1, ← HH.out.2] at z ⊢; exact z)
          | (have z := Blk.set_ (Blk.set_ (Blk.set_ K.out 2 (.int .u64 to)) 3 (.int .u64 to)) 4 (.bool true); simp [XV, ← HH.out.1, ← HH.out.2] at z ⊢; exact z)
        · rw [hp.f, hp.T]
          first
          | exact M.out
          | exact M.out.set hxB 2 _
          | exact (M.out.set hxB 3 _).set hxB 4 _
          | exact ((M.out.set hxB 2 _).set hxB 3 _).set hxB 4 _
        · first
          | exact TW.out
          | exact TW.out.set 2 _
          | exact (TW.out.set 3 _).set 4 _
          | exact ((TW.out.set 2 _).set 3 _).set 4 _)
end Go.Proofs.YtdafeokjedmnkaaDoor
