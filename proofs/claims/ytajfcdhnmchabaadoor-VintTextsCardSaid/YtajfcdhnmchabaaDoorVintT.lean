import Derived.Test.YtajfcdhnmchabaaDoorVintM
import Derived.Test.YtajfcdhnmchabaaDoorInts
namespace Go.Proofs.YtajfcdhnmchabaaDoor
open Go.RowKit
set_option linter.unusedVariables false

/-- 's[:k]' of a slice of whatever type. -/
theorem slice_uptoT (T E : TypeId) (size : Nat) (hT : Tryd.prog.underlying T = some (.slice E)) (hel : Tryd.prog.elem T = E) (hs : ∀ w, (sizeOf E).run Tryd.prog w = .ok size w) (A : Option Addr) (n c k : Nat) (kd : IntKind) (z : Int) (hz : z = k) (hk : k ≤ c) (w : World) :
    (Instr.slice T (.slice A n c) none (some (.int kd z)) none).run Tryd.prog w = .ok (.slice A k c) w := by
  subst hz
  rw [run_slice_h (P := Tryd.prog) w T A n c (by rw [hel]; exact hT) kd (k : Int) (by omega) (by omega), hel, hs]
  cases A <;> simp [sliced, Addr.add]
theorem texts_fact (t more : List Int) (ht : Bytes t) (hl : t.length ≤ 200) (most : Int) (hm : 0 ≤ most) :
    (vtkE (vtext t ++ more) most = if (t.length : Int) ≤ most then 0 else 3) ∧ vtkT (vtext t ++ more) = t ∧ vtkR (vtext t ++ more) = more := by
  obtain ⟨k, b, tt, hs, hb, hk, hk1, hk8⟩ := vsize_is (t.length : Int) (by omega) (by omega)
  rw [hk] at hs
  have e : vtext t ++ more = wenc t.length k ++ (t ++ more) := by
    rw [vtext, venc, hk, List.append_assoc]; rfl
  have q1 := rdS_wenc hs (by omega) hb (t ++ more)
  have q2 := rdN_wenc hs (by omega) hb (t ++ more)
  have q3 := drop_wenc (n := (t.length : Int)) hs (t ++ more)
  rw [e]
  refine ⟨?_, ?_, ?_⟩
  · unfold vtkE
    rw [q1, q2, q3, if_neg (by omega)]
    by_cases h : (t.length : Int) ≤ most
    · rw [if_neg (by omega), if_neg (by rw [List.length_append]; omega), if_pos h]
    · rw [if_pos (by omega), if_neg h]
  · unfold vtkT
    rw [q1, q2, q3, Int.toNat_natCast, List.take_left]
  · unfold vtkR
    rw [q1, q2, q3, Int.toNat_natCast, List.drop_left]
theorem vtext_le (t : List Int) (ht : Bytes t) (hl : t.length ≤ 200) : (vtext t).length ≤ 208 ∧ Bytes (vtext t) := by
  have h := venc_le (t.length : Int) (by omega) (by omega)
  unfold vtext
  rw [List.length_append]
  exact ⟨by omega, h.2.2.append ht⟩
/-- The texts, cut. -/
def ctext (x : Option Addr × Nat × List Int) : List Int := x.2.2.take (200 : Int).toNat
def tbytes (xs : List (Option Addr × Nat × List Int)) : List Int := xs.flatMap fun x => vtext (ctext x)
theorem tbytes_le : ∀ {xs : List (Option Addr × Nat × List Int)}, (∀ x ∈ xs, Bytes x.2.2) → (tbytes xs).length ≤ 208 * xs.length ∧ Bytes (tbytes xs)
  | [], _ => ⟨by simp [tbytes], Bytes.nil⟩
  | x :: xs, h => by
    have ih := tbytes_le (xs := xs) fun y hy => h y (by simp [hy])
    have h1 := vtext_le (ctext x) ((h x (by simp)).take _) (by unfold ctext; simp; omega)
    have e : tbytes (x :: xs) = vtext (ctext x) ++ tbytes xs := rfl
    rw [e]
    refine ⟨?_, h1.2.append ih.2⟩
    rw [List.length_append, List.length_cons]
    have := ih.1
    have := h1.1
    omega
theorem tbytes_snoc (xs : List (Option Addr × Nat × List Int)) (x : Option Addr × Nat × List Int) : tbytes (xs ++ [x]) = tbytes xs ++ vtext (ctext x) := by simp [tbytes]
theorem elem_bs : Tryd.prog.elem 48 = 23 := by kernel_rfl
theorem info_bs : (Tryd.prog.info? 23).map (fun i => (i.zero, i.size, i.bytes)) = some (some (.slice none 0 0), 1, 24) := by kernel_rfl
theorem run_sizeOf_bs (w : World) : (sizeOf 23).run Tryd.prog w = .ok 1 w := by
  obtain ⟨i0, hi0, hz0, hz1, hz2⟩ := info_parts info_bs
  simp [sizeOf, typeInfo, hi0, hz1]

set_option maxHeartbeats 3200000 in
theorem texts_walk (A : Option Addr) (c : Nat) (xs : List (Option Addr × Nat × List Int)) (most : Int) (w : World) (ht : Tab w)
    (hr : RdBs w A xs) (hc : xs.length ≤ c) (hm : c ≤ 9223372036854775807) (hn : A = none → c = 0) (wm : (Lit.int .u8 most).wf = true) :
    Calls Tryd.prog 5 #[.slice A xs.length c, .int .u8 most] w fun e w' => e = .returned (.bool true) ∧ Below w.heap.size w w' := by
  obtain ⟨hm0, hm1⟩ := wf_u8 wm
  clear wm hn
  obtain ⟨ys, hys⟩ : ∃ ys, ys = xs.take 20 := ⟨_, rfl⟩
  have hyl : ys.length ≤ 20 := by rw [hys]; simp; omega
  have hyx : ys.length ≤ xs.length := by rw [hys]; simp; omega
  have hry : RdBs w A ys := by
    refine ⟨?_, fun x hx => hr.each x (by rw [hys] at hx; exact List.mem_of_mem_take hx)⟩
    have := hr.row.upto (k := ys.length) hyx
    have e : (xs.map BV).take (ys.length * 1) = ys.map BV := by
      rw [Nat.mul_one, ← List.map_take, hys]
      congr 1
      rw [List.length_take]
      rcases Nat.le_total 20 xs.length with h | h
      · rw [Nat.min_eq_left h]
      · rw [Nat.min_eq_right h, List.take_of_length_le h, List.take_of_length_le (Nat.le_refl _)]
    rw [e] at this
    exact this
  have hz : (if (20 : Int) < xs.length then (20 : Int) else xs.length) = ys.length := by
    rw [hys]; simp; split <;> omega
  have HYS := Lib.hid hys
  have HR := Lib.hid hry
  have HT := Lib.hid ht
  have hyb := tbytes_le (xs := ys) fun x hx => (hry.each x hx).2
  have HYB := Lib.hid hyb
  have hsl := fun z hz w => slice_uptoT 48 23 1 Tryd.underlying48 elem_bs run_sizeOf_bs A xs.length c ys.length .i64 z hz (by omega) w
  have HSL := Lib.hid hsl
  clear hys hr hry hyb hsl
  have cases20 : 20 < xs.length ∨ xs.length ≤ 20 := by omega
  have HCALL : ∃ z : Int, (20 < xs.length ∧ z = 20 ∨ xs.length ≤ 20 ∧ z = xs.length) ∧ z = ys.length := by
    rcases cases20 with h | h
    · exact ⟨20, .inl ⟨h, rfl⟩, by rw [← hz, if_pos (by omega)]⟩
    · exact ⟨_, .inr ⟨h, rfl⟩, by rw [← hz, if_neg (by omega)]⟩
  clear hz cases20
  obtain ⟨z, hzz, hzy⟩ := HCALL
  have hs20 := HSL.out z hzy
  have HZY := Lib.hid hzy
  clear hzy
  rcases hzz with ⟨h20, rfl⟩ | ⟨h20, rfl⟩
  all_goals
    go_enter Tryd.func5, Tryd.ntmps5
    go_wp2_with fail
    refine (awake_any _ ht).mono ?_
    rintro e w1 ⟨rfl, b1⟩
    go_wp2_with fail
    go_loopw [5, 25] (fun p i wr => ∃ (k : Nat) (A1 : Option Addr) (c1 : Nat), k ≤ ys.length ∧ i = .int .i64 k ∧ p = .slice A1 (tbytes (ys.take k)).length c1 ∧ Own wr w.heap.size A1 c1 (tbytes (ys.take k)) ∧ Below w.heap.size w wr) (fun _ i _ => ys.length - (intOf i).toNat)
    case atStart => exact ⟨0, none, 0, by omega, rfl, rfl, Own.nil _ _, b1⟩
    case round =>
      obtain ⟨k, A1, c1, hk, rfl, rfl, hown, bel⟩ := hrel
      by_cases hkl : k < ys.length
      · obtain ⟨b, off, rfl, hbw, hcell⟩ := (HR.out.below bel).at_ hkl
        obtain ⟨x, hx⟩ : ∃ x, x = ys[k] := ⟨_, rfl⟩
        obtain ⟨hsx, hbx⟩ := (HR.out.below bel).each ys[k] (List.getElem_mem hkl)
        have htake : tbytes (ys.take (k + 1)) = tbytes (ys.take k) ++ vtext (ctext x) := by
          rw [List.take_succ_eq_append_getElem hkl, tbytes_snoc, hx]
        have hbl := tbytes_le (xs := ys.take k) fun y hy => (HR.out.each y (List.mem_of_mem_take hy)).2
        have hkt : (ys.take k).length ≤ 20 := by rw [List.length_take]; omega
        rw [← hx] at hsx hbx hcell
        obtain ⟨xa, xc, xl⟩ := x
        obtain ⟨hbl1, hbl2⟩ := hbl
        have htr := HT.out.below bel
        have HTK := Lib.hid htake
        obtain ⟨q, hq⟩ : ∃ q, q = tbytes (ys.take k) := ⟨_, rfl⟩
        rw [← hq] at hown hbl1 ⊢
        have HQ := Lib.hid hq
        obtain ⟨t, htt⟩ : ∃ t, t = xl.take (200 : Int).toNat := ⟨_, rfl⟩
        have htb : Bytes t := by rw [htt]; exact hbx.take _
        have htl : t.length ≤ 200 := by rw [htt]; simp; omega
        have HTT := Lib.hid htt
        have hcell' : wr.cell? ⟨b, off + k, none⟩ = some (.slice xa xl.length xc) := hcell
        clear htake hq hbl2 hx htt hcell
        go_wp2_with fail
        refine (cut_any xa xc xl 200 _ hsx.rd (by have := hsx.le; have := hsx.max; omega) hsx.le (by decide) (by decide)).mono ?_
        rintro e w2 ⟨A2, c2, rfl, o2, b2⟩
        rw [← HTT.out] at o2 ⊢
        have ht2 := htr.below b2
        have hown2 := hown.below b2
        have bel2 := bel.trans (b2.mono bel.size)
        go_wp2_with fail
        refine (text_any A2 c2 t _ ht2 (Rd.of_own o2) (by omega)).mono ?_
        rintro e w3 ⟨A3, c3, rfl, o3, b3⟩
        have hown3 := hown2.below b3
        have bel3 := bel2.trans (b3.mono bel2.size)
        have hv := vtext_le t htb htl
        obtain ⟨v, hvv⟩ : ∃ v, v = vtext t := ⟨_, rfl⟩
        rw [← hvv] at o3 hv ⊢
        have HVV := Lib.hid hvv
        obtain ⟨hv1, hv2⟩ := hv
        have z3 := bel3.size
        clear hvv hown hown2 bel bel2 b2 b3 o2 ht2 htr
        go_wp2_with (at_builtin; go_must (refine wpList_app rfl (.tmp 29) (.tmp 32) rfl w.heap.size (l := q) (news := v) rfl rfl hown3 (Rd.of_own o3) (by omega) z3 ?_); intro A4 c4 w4 o4 g4 b4)
        go_roundw
        case rel =>
          refine ⟨k + 1, A4, c4, by omega, by go_num, ?_, ?_, bel3.trans b4⟩
          · rw [HTK.out, List.length_append, HQ.out, HVV.out, HTT.out]; rfl
          · rw [HTK.out, ← HQ.out]
            have : vtext (ctext (xa, xc, xl)) = v := by rw [HVV.out, HTT.out]; rfl
            rw [this]
            exact o4
        case measure => simp [intOf]; omega
      · obtain rfl : k = ys.length := by omega
        rename World => wa
        rw [List.take_of_length_le (Nat.le_refl ys.length)] at hown ⊢
        have HSO := Lib.hid (Sl.of_own hown)
        have HRA := Lib.hid (HR.out.below bel)
        clear hown
        go_wp2_with fail
        go_loopw [5, 37] (fun p i wr => ∃ (j : Nat) (A3 : Option Addr) (c3 : Nat), j ≤ ys.length ∧ i = .int .i64 j ∧ p = .slice A3 (tbytes (ys.drop j)).length c3 ∧ Sl wr A3 c3 (tbytes (ys.drop j)) ∧ Below wa.heap.size wa wr) (fun _ i _ => ys.length - (intOf i).toNat)
        case atStart => exact ⟨0, A1, c1, by omega, rfl, rfl, HSO.out, Below.refl _ _⟩
        case round =>
          obtain ⟨j, A3, c3, hj, rfl, rfl, hsl, belz⟩ := hrel
          by_cases hjl : j < ys.length
          · obtain ⟨b, off, rfl, hbw, hcell⟩ := (HRA.out.below belz).at_ hjl
            obtain ⟨x, hx⟩ : ∃ x, x = ys[j] := ⟨_, rfl⟩
            obtain ⟨hsx, hbx⟩ := (HRA.out.below belz).each ys[j] (List.getElem_mem hjl)
            have hdrop : tbytes (ys.drop j) = vtext (ctext x) ++ tbytes (ys.drop (j + 1)) := by
              rw [List.drop_eq_getElem_cons hjl, hx]; rfl
            have hbl := tbytes_le (xs := ys.drop j) fun y hy => (HR.out.each y (List.mem_of_mem_drop hy)).2
            have hkt : (ys.drop j).length ≤ 20 := by rw [List.length_drop]; omega
            rw [← hx] at hsx hbx hcell
            obtain ⟨xa, xc, xl⟩ := x
            obtain ⟨hbl1, hbl2⟩ := hbl
            obtain ⟨t, htt⟩ : ∃ t, t = xl.take (200 : Int).toNat := ⟨_, rfl⟩
            have htb : Bytes t := by rw [htt]; exact hbx.take _
            have htl : t.length ≤ 200 := by rw [htt]; simp; omega
            have hct : ctext (xa, xc, xl) = t := htt.symm
            rw [hct] at hdrop
            obtain ⟨f1, f2, f3⟩ := texts_fact t (tbytes (ys.drop (j + 1))) htb htl most hm0
            obtain ⟨g1, _, _⟩ := texts_fact t (tbytes (ys.drop (j + 1))) htb htl 200 (by omega)
            rw [if_pos (by omega)] at g1
            rw [← hdrop] at f1 f2 f3 g1
            obtain ⟨r, hr⟩ : ∃ r, r = tbytes (ys.drop j) := ⟨_, rfl⟩
            obtain ⟨r', hr'⟩ : ∃ r', r' = tbytes (ys.drop (j + 1)) := ⟨_, rfl⟩
            rw [← hr] at f1 f2 f3 g1 hsl hbl1 hbl2 ⊢
            rw [← hr'] at f3
            have t1 : ttT r 200 = t := by unfold ttT; rw [if_pos g1, f2]
            have t2 : ttR r 200 = r' := by unfold ttR; rw [if_pos g1, f3]
            have F1 := Lib.hid f1
            have G1 := Lib.hid g1
            have T1 := Lib.hid t1
            have T2 := Lib.hid t2
            have HRP := Lib.hid hr'
            have HTT := Lib.hid htt
            have hcell' : wr.cell? ⟨b, off + j, none⟩ = some (.slice xa xl.length xc) := hcell
            clear hx hr hr' f1 f2 f3 g1 t1 t2 hdrop hct htt hcell
            by_cases htm : (t.length : Int) ≤ most
            · have e0 : vtkE r most = 0 := by rw [F1.out, if_pos htm]
              have E0 := Lib.hid e0
              clear e0
              go_wp2_with fail
              refine (cut_any xa xc xl 200 _ hsx.rd (by have := hsx.le; have := hsx.max; omega) hsx.le (by decide) (by decide)).mono ?_
              rintro e w2 ⟨A2, c2, rfl, o2, b2⟩
              rw [← HTT.out] at o2 ⊢
              have s2 := Sl.of_own o2
              have hsl2 := hsl.below b2
              have bel2 := belz.trans (b2.mono belz.size)
              clear o2
              go_wp2_with fail
              refine (tt_u A3 c3 r most _ hsl2 hbl2 (by omega) (by omega)).mono ?_
              rintro e w3 ⟨A5, c5, A6, c6, rfl, s5, s6, b3⟩
              rw [E0.out]
              have s2 := s2.below b3
              have hsl3 := hsl2.below b3
              have bel3 := bel2.trans (b3.mono bel2.size)
              clear s5 s6 bel2 b3 b2 hsl2
              go_wp2_with fail
              refine (tt_u A3 c3 r 200 _ hsl3 hbl2 (by omega) (by decide)).mono ?_
              rintro e w4 ⟨A7, c7, A8, c8, rfl, s7, s8, b4⟩
              rw [G1.out, T1.out, T2.out]
              rw [T1.out] at s7
              rw [T2.out] at s8
              have s2 := s2.below b4
              have bel4 := bel3.trans (b4.mono bel3.size)
              clear bel3 b4 hsl3
              go_wp2_with fail
              refine (same_yes A7 A2 c7 c2 _ _ _ s7.rd s2.rd htb rfl).mono ?_
              rintro e w9 ⟨rfl, rfl⟩
              go_wp2
              go_roundw
              case rel => exact ⟨j + 1, A8, c8, by omega, by go_num, by rw [← HRP.out], by rw [← HRP.out]; exact s8, bel4⟩
              case measure => simp [intOf]; omega
            · have e0 : vtkE r most = 3 := by rw [F1.out, if_neg htm]
              have E0 := Lib.hid e0
              clear e0
              go_wp2_with fail
              refine (cut_any xa xc xl 200 _ hsx.rd (by have := hsx.le; have := hsx.max; omega) hsx.le (by decide) (by decide)).mono ?_
              rintro e w2 ⟨A2, c2, rfl, o2, b2⟩
              rw [← HTT.out] at o2 ⊢
              have s2 := Sl.of_own o2
              have hsl2 := hsl.below b2
              have bel2 := belz.trans (b2.mono belz.size)
              clear o2
              go_wp2_with fail
              refine (tt_u A3 c3 r most _ hsl2 hbl2 (by omega) (by omega)).mono ?_
              rintro e w3 ⟨A5, c5, A6, c6, rfl, s5, s6, b3⟩
              rw [E0.out]
              have s2 := s2.below b3
              have hsl3 := hsl2.below b3
              have bel3 := bel2.trans (b3.mono bel2.size)
              clear s5 s6 bel2 b3 b2 hsl2
              go_wp2_with fail
              refine (tt_u A3 c3 r 200 _ hsl3 hbl2 (by omega) (by decide)).mono ?_
              rintro e w4 ⟨A7, c7, A8, c8, rfl, s7, s8, b4⟩
              rw [G1.out, T1.out, T2.out]
              rw [T1.out] at s7
              rw [T2.out] at s8
              have s2 := s2.below b4
              have bel4 := bel3.trans (b4.mono bel3.size)
              clear bel3 b4 hsl3
              go_wp2_with fail
              refine (same_yes A7 A2 c7 c2 _ _ _ s7.rd s2.rd htb rfl).mono ?_
              rintro e w9 ⟨rfl, rfl⟩
              go_wp2
              go_roundw
              case rel => exact ⟨j + 1, A8, c8, by omega, by go_num, by rw [← HRP.out], by rw [← HRP.out]; exact s8, bel4⟩
              case measure => simp [intOf]; omega
          · obtain rfl : j = ys.length := by omega
            have hz : (tbytes (ys.drop ys.length)).length = 0 := by rw [List.drop_of_length_le (Nat.le_refl _)]; rfl
            rw [hz]
            go_wp2
            go_ret
            exact ⟨rfl, bel.trans (belz.mono bel.size)⟩
end Go.Proofs.YtajfcdhnmchabaaDoor
