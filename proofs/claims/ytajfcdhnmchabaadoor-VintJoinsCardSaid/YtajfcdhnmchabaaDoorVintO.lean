import Derived.Test.YtajfcdhnmchabaaDoorVintM
import Derived.Test.YtajfcdhnmchabaaDoorInts
namespace Go.Proofs.YtajfcdhnmchabaaDoor
open Go.RowKit
set_option linter.unusedVariables false

def OkP (x : Int × Nat) : Prop := ∃ b t, IsSize x.2 x.2 b t ∧ 0 ≤ x.1 ∧ x.1 < b
def OkPs (ps : List (Int × Nat)) : Prop := ∀ x ∈ ps, OkP x
def pbytes (ps : List (Int × Nat)) : List Int := ps.flatMap fun x => wenc x.1 x.2
theorem OkP.le {x : Int × Nat} (h : OkP x) : 1 ≤ x.2 ∧ x.2 ≤ 8 ∧ (wenc x.1 x.2).length = x.2 ∧ Bytes (wenc x.1 x.2) := by
  obtain ⟨b, t, hs, h0, hn⟩ := h
  have : 1 ≤ x.2 ∧ x.2 ≤ 8 := by unfold IsSize at hs; omega
  exact ⟨this.1, this.2, wenc_length _ _ this.1, wenc_bytes hs h0 hn⟩
theorem pbytes_le : ∀ {ps : List (Int × Nat)}, OkPs ps → (pbytes ps).length ≤ 8 * ps.length ∧ Bytes (pbytes ps)
  | [], _ => ⟨by simp [pbytes], Bytes.nil⟩
  | x :: ps, h => by
    have ih := pbytes_le (ps := ps) fun y hy => h y (by simp [hy])
    obtain ⟨_, h2, h3, h4⟩ := OkP.le (h x (by simp))
    have e : pbytes (x :: ps) = wenc x.1 x.2 ++ pbytes ps := rfl
    rw [e]
    refine ⟨?_, h4.append ih.2⟩
    rw [List.length_append, h3, List.length_cons]
    have := ih.1
    omega
theorem pbytes_snoc (ps : List (Int × Nat)) (x : Int × Nat) : pbytes (ps ++ [x]) = pbytes ps ++ wenc x.1 x.2 := by simp [pbytes]
theorem pow4 (y : Int) (h0 : 0 ≤ y) : ∃ z : Int, wrap64 (2 ^ (y % 4).toNat) = z ∧ (z = 1 ∨ z = 2 ∨ z = 4 ∨ z = 8) := by
  refine ⟨_, rfl, ?_⟩
  rcases (show y % 4 = 0 ∨ y % 4 = 1 ∨ y % 4 = 2 ∨ y % 4 = 3 by omega) with h | h | h | h <;> rw [h] <;> simp [wrap64]
/-- A size that is no less than the shortest one's. -/
theorem size_up {x s : Int} (h0 : 0 ≤ x) (h1 : x < 4611686018427387904) (hs : s = 1 ∨ s = 2 ∨ s = 4 ∨ s = 8) (hle : vsize x ≤ s) : ∃ kk b t, IsSize s kk b t ∧ x < b ∧ s = (kk : Nat) := by
  unfold IsSize
  rcases hs with rfl | rfl | rfl | rfl
  · refine ⟨1, 64, 0, by omega, ?_, rfl⟩
    unfold vsize at hle; (repeat' split at hle) <;> omega
  · refine ⟨2, 16384, 1, by omega, ?_, rfl⟩
    unfold vsize at hle; (repeat' split at hle) <;> omega
  · refine ⟨4, 1073741824, 2, by omega, ?_, rfl⟩
    unfold vsize at hle; (repeat' split at hle) <;> omega
  · exact ⟨8, 4611686018427387904, 3, by omega, h1, rfl⟩
theorem info_u64 : (Tryd.prog.info? 22).map (fun i => (i.zero, i.size, i.bytes)) = some (some (.int .u64 0), 1, 8) := by kernel_rfl
theorem IV_map (k : IntKind) (ps : List (Int × Nat)) (x : Int × Nat) : IV k ((ps ++ [x]).map Prod.fst) = IV k (ps.map Prod.fst) ++ [.int k x.1] := by simp [IV]

set_option maxHeartbeats 3200000 in
theorem joins_walk (A : Option Addr) (c : Nat) (l : List Int) (A' : Option Addr) (c' : Nat) (sz : List Int) (w : World) (ht : Tab w)
    (hr : RdI .u64 w A l) (hw : WF .u64 l) (hc : l.length ≤ c) (hm : c ≤ 9223372036854775807) (hn : A = none → c = 0)
    (hr' : Rd w A' sz) (hb' : Bytes sz) (hc' : sz.length ≤ c') (hm' : c' ≤ 9223372036854775807) (hn' : A' = none → c' = 0) :
    Calls Tryd.prog 7 #[.slice A l.length c, .slice A' sz.length c'] w fun e w' => e = .returned (.bool true) ∧ Below w.heap.size w w' := by
  go_enter Tryd.func7, Tryd.ntmps7
  go_wp2_with fail
  refine (awake_any _ ht).mono ?_
  rintro e w1 ⟨rfl, b1⟩
  have HR := Lib.hid hr
  have HR' := Lib.hid hr'
  have HT := Lib.hid ht
  have HW := Lib.hid hw
  have HB' := Lib.hid hb'
  clear hr hr' ht hw hb' hn hn'
  have hll : (l.length : Int) ≤ 9223372036854775807 := by omega
  go_wp2_with fail
  go_loopw [5, 6, 21] (fun p q i wr => ∃ (k : Nat) (ps : List (Int × Nat)) (A1 A2 : Option Addr) (c1 c2 : Nat), k ≤ l.length ∧ i = .int .i64 k ∧ p = .slice A1 (pbytes ps).length c1 ∧ Own wr w.heap.size A1 c1 (pbytes ps) ∧
      q = .slice A2 ps.length c2 ∧ OwnV wr w.heap.size 22 1 A2 c2 ps.length (IV .u64 (ps.map Prod.fst)) ∧ ps.length ≤ k ∧ ps.length ≤ 20 ∧ OkPs ps ∧ Below w.heap.size w wr) (fun _ _ i _ => l.length - (intOf i).toNat)
  case atStart => exact ⟨0, [], none, none, 0, 0, by omega, rfl, rfl, Own.nil _ _, rfl, OwnV.nil _ _ _ _, by simp, by simp, (fun _ h => by cases h), b1⟩
  case round =>
    obtain ⟨k, ps, A1, A2, c1, c2, hk, rfl, rfl, hown, rfl, hown2, hp1, hp2, hok, bel⟩ := hrel
    by_cases hkl : k < l.length
    · obtain ⟨b, off, x, rfl, hbw, hx, hcell0⟩ := HR.out.at_ hkl
      have hcell : wr.cell? ⟨b, off + k, none⟩ = some (.int .u64 x) := (bel.cell (p := ⟨b, off + k, none⟩) hbw).trans hcell0
      have hx0 := wf_u64 (HW.out x (List.mem_of_getElem? hx))
      clear hx hcell0
      obtain ⟨hx0, hx1⟩ := hx0
      by_cases h20 : 20 ≤ k
      · go_wp2
        go_roundw
        case rel => exact ⟨k + 1, ps, A1, A2, c1, c2, by omega, by go_num, rfl, hown, rfl, hown2, by omega, hp2, hok, bel⟩
        case measure => simp [intOf]; omega
      · by_cases hmax : 4611686018427387903 < x
        · go_wp2
          go_roundw
          case rel => exact ⟨k + 1, ps, A1, A2, c1, c2, by omega, by go_num, rfl, hown, rfl, hown2, by omega, hp2, hok, bel⟩
          case measure => simp [intOf]; omega
        · have hlim : x < 4611686018427387904 := by omega
          have htr := HT.out.below bel
          have hrr := HR'.out.below bel
          have hbl := pbytes_le hok
          have hvs : (vsize x = 1 ∨ vsize x = 2 ∨ vsize x = 4 ∨ vsize x = 8) := by
            obtain ⟨kk, b, t, hs, _⟩ := vsize_is x hx0 hlim
            unfold IsSize at hs; omega
          have HVS := Lib.hid hvs
          have HOK := Lib.hid hok
          have HOWN2 := Lib.hid hown2
          have HOWN := Lib.hid hown
          obtain ⟨hbl1, hbl2⟩ := hbl
          clear hvs hok hown2 hown
          by_cases hks : k < sz.length
          · obtain ⟨b2, off2, rfl, hb2⟩ := HR'.out.some_ (by omega)
            obtain ⟨y, hy⟩ : ∃ y, sz[k]? = some y := ⟨_, List.getElem?_eq_getElem hks⟩
            have hcy := hrr.cell hy
            obtain ⟨hy0, hy1⟩ := HB'.out.at hy
            obtain ⟨z, hz, hz4⟩ := pow4 y hy0
            have HZ4 := Lib.hid hz4
            have hks' : (k : Int) < (sz.length : Int) := by omega
            obtain ⟨v, hv⟩ : ∃ v, v = vsize x := ⟨_, rfl⟩
            have HV := Lib.hid hv
            clear hy hz4 hv hrr
            by_cases hvz : v < z
            · have C1 := Lib.hid fun (W : World) => (size_any x W hx0).mono (R' := fun e w' => e = .returned (.int .i64 v) ∧ w' = W) (by rintro e w' ⟨rfl, rfl⟩; rw [HV.out]; exact ⟨rfl, rfl⟩)
              go_wp2_with fail
              go_quiet ((go_at_call 15; exact Calls.quiet_of_same (C1.out _)))
              go_wp2_with fail
              have htW : Tab (wr.drewN nq) := htr
              have hownW : Own (wr.drewN nq) w.heap.size A1 c1 (pbytes ps) := HOWN.out
              have hown2W : OwnV (wr.drewN nq) w.heap.size 22 1 A2 c2 ps.length (IV .u64 (ps.map Prod.fst)) := HOWN2.out
              have belW : Below w.heap.size w (wr.drewN nq) := ⟨bel.os, bel.tape, bel.output, bel.size, bel.block⟩
              generalize wr.drewN nq = W at htW hownW hown2W belW ⊢
              obtain ⟨kk, bb, tt, hsz, hxb, hsk⟩ := size_up hx0 hlim HZ4.out (by rw [← HV.out]; omega)
              have HOKN : OkP (x, kk) := ⟨bb, tt, by rw [← hsk]; exact hsz, hx0, hxb⟩
              obtain ⟨hkk1, hkk8, hkl8, hkb⟩ := HOKN.le
              have HON := Lib.hid HOKN
              have HKL := Lib.hid hkl8
              clear HOKN hkl8
              refine (wide_ok x z kk bb tt _ htW hsz hx0 hxb).mono ?_
              rintro e w2 ⟨A3, c3, rfl, o3, b3⟩
              have hownW := hownW.below b3
              have hown2W := hown2W.below b3
              have belW2 := belW.trans (b3.mono belW.size)
              have hp8 : (wenc x kk).length ≤ 8 := by rw [HKL.out]; exact hkk8
              obtain ⟨q, hq⟩ : ∃ q, q = wenc x kk := ⟨_, rfl⟩
              rw [← hq] at o3 hp8 ⊢
              have HQ := Lib.hid hq
              clear hq
              have rq := Rd.of_own o3
              have zW := belW2.size
              go_wp2_with (first
                | (at_builtin; refine wpList_app rfl (.tmp 53) (.tmp 54) rfl w.heap.size (l := pbytes ps) (news := q) rfl rfl hownW rq (by omega) zW ?_; intro A4 c4 w4 o4 g4 b4; have o4A := o4.below ((Below.refl _ _).alloc (Nat.le_refl _) (.cells #[.int .u64 x] 22)); have o5 := (hown2W.grown g4 (OwnV.other (e := 5) hownW (by decide))).below ((Below.refl _ _).alloc (Nat.le_refl _) (.cells #[.int .u64 x] 22)); have r5 : Reads (w4.alloc (.cells #[.int .u64 x] 22)) (w4.alloc (.cells #[.int .u64 x] 22)).heap.size 1 (some ⟨w4.heap.size, 0, none⟩) 1 [.int .u64 x] := Reads.of_own (base := 0) (e := 22) (c := 1) (Blk.own (xs := [.int .u64 x]) (Blk.new w4 _ _) (Nat.zero_le _) (by simp [maxLen]) rfl); have z5 := b4.size)
                | (at_builtin; go_must (refine wpList_appV rfl (.tmp 56) (.tmp 58) 51 22 1 8 _ rfl Tryd.underlying51 info_u64 rfl (by omega) w.heap.size (n := ps.length) (m := 1) (d := 1) rfl rfl o5 r5 (by intro u hu; simp at hu; subst hu; rfl) (by simp only [maxLen]; omega) (by omega) (by simp; omega) ?_); intro A6 c6 w6 o6 g6 b6))
              go_roundw
              case rel =>
                refine ⟨k + 1, ps ++ [(x, kk)], A4, A6, c4, c6, by omega, by go_num, ?_, ?_, ?_, ?_, ?_, ?_, ?_, ?_⟩
                · rw [pbytes_snoc, List.length_append, HQ.out]
                · rw [pbytes_snoc, ← HQ.out]
                  exact o4A.grown g6 (OwnV.other o5 (by decide))
                · rw [List.length_append]; rfl
                · rw [IV_map, List.length_append]; exact o6
                · rw [List.length_append]; simp; omega
                · rw [List.length_append]; simp; omega
                · intro y hy
                  rcases List.mem_append.1 hy with hy | hy
                  · exact HOK.out y hy
                  · simp at hy; rw [hy]; exact HON.out
                · exact (belW2.trans b4).trans (((Below.refl _ _).alloc (Nat.le_trans zW z5) _).trans b6)
              case measure => simp [intOf]; omega
            · have C1 := Lib.hid fun (W : World) => (size_any x W hx0).mono (R' := fun e w' => e = .returned (.int .i64 v) ∧ w' = W) (by rintro e w' ⟨rfl, rfl⟩; rw [HV.out]; exact ⟨rfl, rfl⟩)
              go_wp2_with fail
              go_quiet ((go_at_call 15; exact Calls.quiet_of_same (C1.out _)))
              go_wp2_with fail
              have htW : Tab (wr.drewN nq) := htr
              have hownW : Own (wr.drewN nq) w.heap.size A1 c1 (pbytes ps) := HOWN.out
              have hown2W : OwnV (wr.drewN nq) w.heap.size 22 1 A2 c2 ps.length (IV .u64 (ps.map Prod.fst)) := HOWN2.out
              have belW : Below w.heap.size w (wr.drewN nq) := ⟨bel.os, bel.tape, bel.output, bel.size, bel.block⟩
              generalize wr.drewN nq = W at htW hownW hown2W belW ⊢
              obtain ⟨kk, bb, tt, hsz, hxb, hsk⟩ := size_up hx0 hlim (by have := HVS.out; rw [← HV.out] at this; exact this) (by rw [← HV.out]; omega)
              have HOKN : OkP (x, kk) := ⟨bb, tt, by rw [← hsk]; exact hsz, hx0, hxb⟩
              obtain ⟨hkk1, hkk8, hkl8, hkb⟩ := HOKN.le
              have HON := Lib.hid HOKN
              have HKL := Lib.hid hkl8
              clear HOKN hkl8
              refine (wide_ok x v kk bb tt _ htW hsz hx0 hxb).mono ?_
              rintro e w2 ⟨A3, c3, rfl, o3, b3⟩
              have hownW := hownW.below b3
              have hown2W := hown2W.below b3
              have belW2 := belW.trans (b3.mono belW.size)
              have hp8 : (wenc x kk).length ≤ 8 := by rw [HKL.out]; exact hkk8
              obtain ⟨q, hq⟩ : ∃ q, q = wenc x kk := ⟨_, rfl⟩
              rw [← hq] at o3 hp8 ⊢
              have HQ := Lib.hid hq
              clear hq
              have rq := Rd.of_own o3
              have zW := belW2.size
              go_wp2_with (first
                | (at_builtin; refine wpList_app rfl (.tmp 53) (.tmp 54) rfl w.heap.size (l := pbytes ps) (news := q) rfl rfl hownW rq (by omega) zW ?_; intro A4 c4 w4 o4 g4 b4; have o4A := o4.below ((Below.refl _ _).alloc (Nat.le_refl _) (.cells #[.int .u64 x] 22)); have o5 := (hown2W.grown g4 (OwnV.other (e := 5) hownW (by decide))).below ((Below.refl _ _).alloc (Nat.le_refl _) (.cells #[.int .u64 x] 22)); have r5 : Reads (w4.alloc (.cells #[.int .u64 x] 22)) (w4.alloc (.cells #[.int .u64 x] 22)).heap.size 1 (some ⟨w4.heap.size, 0, none⟩) 1 [.int .u64 x] := Reads.of_own (base := 0) (e := 22) (c := 1) (Blk.own (xs := [.int .u64 x]) (Blk.new w4 _ _) (Nat.zero_le _) (by simp [maxLen]) rfl); have z5 := b4.size)
                | (at_builtin; go_must (refine wpList_appV rfl (.tmp 56) (.tmp 58) 51 22 1 8 _ rfl Tryd.underlying51 info_u64 rfl (by omega) w.heap.size (n := ps.length) (m := 1) (d := 1) rfl rfl o5 r5 (by intro u hu; simp at hu; subst hu; rfl) (by simp only [maxLen]; omega) (by omega) (by simp; omega) ?_); intro A6 c6 w6 o6 g6 b6))
              go_roundw
              case rel =>
                refine ⟨k + 1, ps ++ [(x, kk)], A4, A6, c4, c6, by omega, by go_num, ?_, ?_, ?_, ?_, ?_, ?_, ?_, ?_⟩
                · rw [pbytes_snoc, List.length_append, HQ.out]
                · rw [pbytes_snoc, ← HQ.out]
                  exact o4A.grown g6 (OwnV.other o5 (by decide))
                · rw [List.length_append]; rfl
                · rw [IV_map, List.length_append]; exact o6
                · rw [List.length_append]; simp; omega
                · rw [List.length_append]; simp; omega
                · intro y hy
                  rcases List.mem_append.1 hy with hy | hy
                  · exact HOK.out y hy
                  · simp at hy; rw [hy]; exact HON.out
                · exact (belW2.trans b4).trans (((Below.refl _ _).alloc (Nat.le_trans zW z5) _).trans b6)
              case measure => simp [intOf]; omega
          · go_wp2_with fail
            have htW : Tab wr := htr
            have hownW : Own wr w.heap.size A1 c1 (pbytes ps) := HOWN.out
            have hown2W : OwnV wr w.heap.size 22 1 A2 c2 ps.length (IV .u64 (ps.map Prod.fst)) := HOWN2.out
            have belW : Below w.heap.size w wr := bel
            clear hrr
            obtain ⟨kk, bb, tt, hsz, hxb, hsk⟩ := size_up hx0 hlim (.inr (.inr (.inr rfl))) (by have := HVS.out; omega)
            have HOKN : OkP (x, kk) := ⟨bb, tt, by rw [← hsk]; exact hsz, hx0, hxb⟩
            obtain ⟨hkk1, hkk8, hkl8, hkb⟩ := HOKN.le
            have HON := Lib.hid HOKN
            have HKL := Lib.hid hkl8
            clear HOKN hkl8
            refine (wide_ok x 8 kk bb tt _ htW hsz hx0 hxb).mono ?_
            rintro e w2 ⟨A3, c3, rfl, o3, b3⟩
            have hownW := hownW.below b3
            have hown2W := hown2W.below b3
            have belW2 := belW.trans (b3.mono belW.size)
            have hp8 : (wenc x kk).length ≤ 8 := by rw [HKL.out]; exact hkk8
            obtain ⟨q, hq⟩ : ∃ q, q = wenc x kk := ⟨_, rfl⟩
            rw [← hq] at o3 hp8 ⊢
            have HQ := Lib.hid hq
            clear hq
            have rq := Rd.of_own o3
            have zW := belW2.size
            go_wp2_with (first
              | (at_builtin; refine wpList_app rfl (.tmp 53) (.tmp 54) rfl w.heap.size (l := pbytes ps) (news := q) rfl rfl hownW rq (by omega) zW ?_; intro A4 c4 w4 o4 g4 b4; have o4A := o4.below ((Below.refl _ _).alloc (Nat.le_refl _) (.cells #[.int .u64 x] 22)); have o5 := (hown2W.grown g4 (OwnV.other (e := 5) hownW (by decide))).below ((Below.refl _ _).alloc (Nat.le_refl _) (.cells #[.int .u64 x] 22)); have r5 : Reads (w4.alloc (.cells #[.int .u64 x] 22)) (w4.alloc (.cells #[.int .u64 x] 22)).heap.size 1 (some ⟨w4.heap.size, 0, none⟩) 1 [.int .u64 x] := Reads.of_own (base := 0) (e := 22) (c := 1) (Blk.own (xs := [.int .u64 x]) (Blk.new w4 _ _) (Nat.zero_le _) (by simp [maxLen]) rfl); have z5 := b4.size)
              | (at_builtin; go_must (refine wpList_appV rfl (.tmp 56) (.tmp 58) 51 22 1 8 _ rfl Tryd.underlying51 info_u64 rfl (by omega) w.heap.size (n := ps.length) (m := 1) (d := 1) rfl rfl o5 r5 (by intro u hu; simp at hu; subst hu; rfl) (by simp only [maxLen]; omega) (by omega) (by simp; omega) ?_); intro A6 c6 w6 o6 g6 b6))
            go_roundw
            case rel =>
              refine ⟨k + 1, ps ++ [(x, kk)], A4, A6, c4, c6, by omega, by go_num, ?_, ?_, ?_, ?_, ?_, ?_, ?_, ?_⟩
              · rw [pbytes_snoc, List.length_append, HQ.out]
              · rw [pbytes_snoc, ← HQ.out]
                exact o4A.grown g6 (OwnV.other o5 (by decide))
              · rw [List.length_append]; rfl
              · rw [IV_map, List.length_append]; exact o6
              · rw [List.length_append]; simp; omega
              · rw [List.length_append]; simp; omega
              · intro y hy
                rcases List.mem_append.1 hy with hy | hy
                · exact HOK.out y hy
                · simp at hy; rw [hy]; exact HON.out
              · exact (belW2.trans b4).trans (((Below.refl _ _).alloc (Nat.le_trans zW z5) _).trans b6)
            case measure => simp [intOf]; omega
    · obtain rfl : k = l.length := by omega
      rename World => wa
      have hbl := pbytes_le hok
      have HOK := Lib.hid hok
      have HSL := Lib.hid (Sl.of_own hown)
      have HRV := Lib.hid hown2
      have hps : (ps.length : Int) ≤ 20 := by omega
      clear hok hown hown2 hp1
      go_wp2_with fail
      go_loopw [5, 63] (fun p i wr => ∃ (j : Nat) (A3 : Option Addr) (c3 : Nat), j ≤ ps.length ∧ i = .int .i64 j ∧ p = .slice A3 (pbytes (ps.drop j)).length c3 ∧ Sl wr A3 c3 (pbytes (ps.drop j)) ∧ Below wa.heap.size wa wr) (fun _ i _ => ps.length - (intOf i).toNat)
      case atStart => exact ⟨0, A1, c1, by omega, rfl, rfl, HSL.out, Below.refl _ _⟩
      case round =>
        obtain ⟨j, A3, c3, hj, rfl, rfl, hsl, belz⟩ := hrel
        by_cases hjl : j < ps.length
        · obtain ⟨g, u, rfl, hgb, hu, hcu⟩ := HRV.out.at_ hjl
          have hx := List.getElem?_eq_getElem hjl
          simp only [IV, List.getElem?_map, hx, Option.map_some, Option.some.injEq] at hu
          subst hu
          have hcell : wr.cell? ⟨g, j, none⟩ = some (.int .u64 ps[j].1) := (belz.cell (p := ⟨g, j, none⟩) hgb).trans hcu
          have hokx : OkP ps[j] := HOK.out _ (List.getElem_mem hjl)
          have hdrop : pbytes (ps.drop j) = wenc ps[j].1 ps[j].2 ++ pbytes (ps.drop (j + 1)) := by
            rw [List.drop_eq_getElem_cons hjl]; rfl
          have hall := pbytes_le (ps := ps.drop j) fun y hy => HOK.out y (List.mem_of_mem_drop hy)
          obtain ⟨hall1, hall2⟩ := hall
          have hdl : (ps.drop j).length ≤ 20 := by simp; omega
          obtain ⟨bb, tt, hsz, hx0, hxb⟩ := hokx
          have q1 := rdS_wenc hsz hx0 hxb (pbytes (ps.drop (j + 1)))
          have q2 := rdN_wenc hsz hx0 hxb (pbytes (ps.drop (j + 1)))
          have q3 := drop_wenc (n := ps[j].1) hsz (pbytes (ps.drop (j + 1)))
          have hk1 : ps[j].2 ≠ 0 := by unfold IsSize at hsz; omega
          rw [← hdrop] at q1 q2 q3
          have e1 : tkE (pbytes (ps.drop j)) = 0 := by unfold tkE; rw [if_neg (by omega)]
          have e2 : tkR (pbytes (ps.drop j)) = pbytes (ps.drop (j + 1)) := by unfold tkR; rw [if_neg (by omega), q1, q3]
          obtain ⟨x, hx⟩ : ∃ x, x = ps[j].1 := ⟨_, rfl⟩
          rw [← hx] at q2 hcell
          obtain ⟨r, hr⟩ : ∃ r, r = pbytes (ps.drop j) := ⟨_, rfl⟩
          obtain ⟨r', hr'⟩ : ∃ r', r' = pbytes (ps.drop (j + 1)) := ⟨_, rfl⟩
          rw [← hr] at e1 e2 q2 hsl hall1 hall2 ⊢
          rw [← hr'] at e2
          have E1 := Lib.hid e1
          have E2 := Lib.hid e2
          have E3 := Lib.hid q2
          have HR' := Lib.hid hr'
          clear hx hr hr' e1 e2 q1 q2 q3 hdrop hcu hsz hx0 hxb hgb
          go_wp2_with fail
          refine (take_u A3 c3 r _ hsl hall2 (by omega)).mono ?_
          rintro e w8 ⟨A5, c5, rfl, e5, b8⟩
          rw [E1.out, E2.out, E3.out]
          rw [E2.out] at e5
          go_wp2
          go_roundw
          case rel => exact ⟨j + 1, A5, c5, by omega, by go_num, by rw [← HR'.out], by rw [← HR'.out]; exact e5, belz.trans (b8.mono belz.size)⟩
          case measure => simp [intOf]; omega
        · obtain rfl : j = ps.length := by omega
          have hz : (pbytes (ps.drop ps.length)).length = 0 := by rw [List.drop_of_length_le (Nat.le_refl _)]; rfl
          rw [hz]
          go_wp2
          go_ret
          exact ⟨rfl, bel.trans (belz.mono bel.size)⟩
end Go.Proofs.YtajfcdhnmchabaaDoor
