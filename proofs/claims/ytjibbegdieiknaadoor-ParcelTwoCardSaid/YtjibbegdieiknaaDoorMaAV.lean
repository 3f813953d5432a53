/-
  parcel.unmask of a packet whose head is right.
-/
import Derived.Test.YtjibbegdieiknaaDoorMaAU
namespace Go.Proofs.YtjibbegdieiknaaDoor
open Go.RowKit
set_option maxRecDepth 100000
set_option linter.unusedVariables false
set_option linter.unusedSimpArgs false

theorem slice_gl (g L c k : Nat) (hk : k < L) (hc : L ≤ c) (w : World) : (Instr.slice 23 (.slice (some ⟨g, 0, none⟩) L c) (some (.int .i64 (k : Int))) none none).run Tryd.prog w = .ok (.slice (some ⟨g, k, none⟩) (L - k) (c - k)) w := by
  obtain ⟨A', h1, h2⟩ := slice_adv g 0 L c k .i64 (by omega) hc
  have e := h2 (by omega)
  rw [Nat.zero_add] at e
  rw [h1, e]
theorem bare_zero (w : World) : (zeroValue 64).run Tryd.prog w = .ok (.agg #[.bool false, .int .i64 0, .bool false, .slice none 0 0, .slice none 0 0, .slice none 0 0, .int .u64 0, .int .i64 0, .slice none 0 0, .slice none 0 0]) w := by kernel_rfl
/-- What unmask tells. -/
def bareV (lg : Bool) (lv : Int) (ph : Bool) (A1 : Option Addr) (n1 c1 : Nat) (A2 : Option Addr) (n2 c2 : Nat) (A3 : Option Addr) (n3 c3 : Nat) (cut : Int) (s : Nat) (A4 : Option Addr) (n4 c4 : Nat) (A5 : Option Addr) (n5 c5 : Nat) : Array Value :=
  #[.bool lg, .int .i64 lv, .bool ph, .slice A1 n1 c1, .slice A2 n2 c2, .slice A3 n3 c3, .int .u64 cut, .int .i64 (s : Int), .slice A4 n4 c4, .slice A5 n5 c5]
theorem bare_built (lg : Bool) (lv : Int) (ph : Bool) (A1 : Option Addr) (n1 c1 : Nat) (A2 : Option Addr) (n2 c2 : Nat) (A3 : Option Addr) (n3 c3 : Nat) (cut : Int) (s : Nat) (A4 : Option Addr) (n4 c4 : Nat) (A5 : Option Addr) (n5 c5 : Nat) :
    Tryd.prog.built 64 [(0, .agg #[.bool lg, .int .i64 lv, .bool ph, .slice A1 n1 c1, .slice A2 n2 c2]), (1, .slice A3 n3 c3), (2, .int .u64 cut), (3, .int .i64 (s : Int)), (4, .slice A4 n4 c4), (5, .slice A5 n5 c5)] = some (bareV lg lv ph A1 n1 c1 A2 n2 c2 A3 n3 c3 cut s A4 n4 c4 A5 n5 c5) := by kernel_rfl
theorem rd_range {w : World} {b o : Nat} {l : List Int} (h : Rd w (some ⟨b, o, none⟩) l) : w.rangeAt b o (IV .u8 l) := fun j v hv => by
  obtain ⟨x, hx, rfl⟩ : ∃ x, l[j]? = some x ∧ .int .u8 x = v := by simpa [IV] using hv
  exact h.cell hx

set_option maxHeartbeats 6400000 in
theorem unmask_ok (key q : List Int) (A : Option Addr) (c T En s : Nat) (lg : Bool) (lv : Int) (a b : List Int) (w : World) (hq : Sl w A c q) (hqb : Bytes q) (hql : q.length ≤ 100000) (hk : key.length = 32) (hkb : Bytes key)
    (hE : rdErr q = 0) (hT : rdAt q = (T : Int)) (hEn : rdAt q + hdV q 0 = (En : Int)) (h1 : hdLong q 0 = lg) (h2 : hdLvl q 0 = lv) (h3 : hdTo q 0 = a) (h4 : hdFr q 0 = b) (hTE : T + 20 ≤ En) (hEq : En ≤ q.length) (hT1 : 1 ≤ T)
    (q0 : Int) (r0 : List Int) (hq0 : q = q0 :: r0) (M : List Int) (hM : M = maskL key ((q.drop (T + 4)).take 16)) (F : Int) (hF : F = mF q0 (M.getD 0 0)) (hFr : 0 ≤ F ∧ F < 256) (hs : 1 ≤ s ∧ s ≤ 4) (hFs : bits .and .u8 F 3 = (s : Int) - 1)
    (ph : Bool) (hph : ph = (!lg && (bits .and .u8 F 4 != 0))) (D : List Int) (hD : D = xorK ((q.take (T + s)).set 0 F) T M s) :
    Calls Tryd.prog 29 #[.slice A q.length c, .agg (IV .u8 key).toArray] w fun r w' => ∃ A1 c1 A2 c2 A3 c3 A4 c4 A5 c5,
      r = .returned (.tuple #[.agg (bareV lg lv ph A1 a.length c1 A2 b.length c2 A3 D.length c3 (numB (D.drop T)) s A4 (En - (T + s)) c4 A5 (q.length - En) c5), .int .i64 0]) ∧
      Own w' w.heap.size A1 c1 a ∧ Own w' w.heap.size A2 c2 b ∧ Own w' w.heap.size A3 c3 D ∧ Sl w' A4 c4 ((q.take En).drop (T + s)) ∧ Sl w' A5 c5 (q.drop En) ∧ Below w.heap.size w w' := by
  have CR := Lib.hid (fun W (h : Sl W A c q) => Read_yes A c q W h hqb (by omega) hE)
  rw [h1, h2, h3, h4, hT] at CR
  rw [hT] at hEn
  rw [hEn] at CR
  have CM := Lib.hid (fun W (h : Sl W A c q) => maskOf_any A c q T key W h.rd hqb (by omega) h.le h.max hk hkb)
  rw [← hM] at CM
  have hMl : M.length = 5 := by rw [hM]; exact maskL_length _ _
  have hMb : Bytes M := by rw [hM]; exact maskL_bytes _ _
  have hq0r : 0 ≤ q0 ∧ q0 < 256 := hqb q0 (by rw [hq0]; simp)
  have CF := Lib.hid (fun W => maskFirst_any q0 M W hq0r hMl)
  obtain ⟨MA, hMA⟩ : ∃ MA, MA = (IV .u8 M).toArray := ⟨_, rfl⟩
  obtain ⟨KL, hKL⟩ : ∃ KL, KL = IV .u8 key := ⟨_, rfl⟩
  obtain ⟨X, hX⟩ : ∃ X, X = q.take (T + s) := ⟨_, rfl⟩
  have hXl : X.length = T + s := by rw [hX]; simp; omega
  have hX0 : 0 < X.length := by omega
  have CC := Lib.hid (fun (A1 : Option Addr) W (h : Rd W A1 X) (hn : A1 ≠ none) => clone_any A1 c X W h (by omega) (fun e => absurd e hn))
  rw [hXl] at CC
  obtain ⟨Y, hY⟩ : ∃ Y, Y = X.set 0 F := ⟨_, rfl⟩
  have hYl : Y.length = T + s := by rw [hY, List.length_set]; exact hXl
  have CX := Lib.hid (fun (g4 c4 base : Nat) W (o : Own W base (some ⟨g4, 0, none⟩) c4 Y) (hc : T + s ≤ c4) => maskNumber_any g4 c4 T s (c4 - T) base Y M W o hs.2 (by omega) hMl (by omega) (by omega))
  rw [← hX, ← hY] at hD
  rw [← hMA, ← hD] at CX
  have hDl : D.length = T + s := by rw [hD, xorK_length]; exact hYl
  have hDb : Bytes D := by
    rw [hD]
    refine xorK_bytes ?_ _ hMb _
    rw [hY]
    intro x hx
    rcases List.mem_or_eq_of_mem_set hx with h | h
    · rw [hX] at h; exact hqb x (List.mem_of_mem_take h)
    · rw [h]; exact hFr
  have CNu := Lib.hid (fun (A1 : Option Addr) (c1 : Nat) W (h : Rd W A1 (D.drop T)) => number_any A1 c1 (D.drop T) W h (hDb.drop T) (by rw [List.length_drop]; omega))
  rw [show (D.drop T).length = s by rw [List.length_drop]; omega] at CNu
  obtain ⟨NB, hNB⟩ : ∃ NB, NB = numB (D.drop T) := ⟨_, rfl⟩
  rw [← hNB] at CNu ⊢
  rw [← hF] at CF
  rw [← hMA] at CF CM
  rw [← hKL] at CM ⊢
  obtain ⟨bq, oq, hAq, hbq⟩ := hq.rd.some_ (by rw [hq0]; simp)
  subst hAq
  obtain ⟨B1, u1, u2, u3⟩ := slice_upto (some ⟨bq, oq, none⟩) c q (T + s) .i64 (by omega) hq.le
  obtain ⟨B2, v1, v2, v3⟩ := slice_both (some ⟨bq, oq, none⟩) c q (T + s) En .i64 .i64 (by omega) hEq hq.le
  obtain ⟨B3, x1, x2, x3⟩ := slice_from (some ⟨bq, oq, none⟩) c q En .i64 hEq hq.le
  rw [← hX, hXl, show ((T + s : Nat) : Int) = (T : Int) + (s : Int) by omega] at u1
  rw [← hX] at u2
  rw [show ((q.take En).drop (T + s)).length = En - (T + s) by simp; omega, show ((T + s : Nat) : Int) = (T : Int) + (s : Int) by omega] at v1
  rw [List.length_drop] at x1
  have U2 := Lib.hid (u2 w hq.rd)
  have V2 := Lib.hid (v2 w hq.rd)
  have X2 := Lib.hid (x2 w hq.rd)
  have U3 := Lib.hid (show B1 ≠ none from fun h => by cases u3 h)
  have V3 := Lib.hid (show B2 ≠ none from fun h => by cases v3 h)
  have X3 := Lib.hid (show B3 ≠ none from fun h => by cases x3 h)
  have QL := Lib.hid (show q.length ≤ c ∧ c ≤ 9223372036854775807 from ⟨hq.le, hq.max⟩)
  have HQ := Lib.hid hq
  have RQ := Lib.hid (rd_range hq.rd)
  have HBQ := Lib.hid hbq
  have XL := Lib.hid hXl
  have YL := Lib.hid hYl
  have DL := Lib.hid hDl
  have HY := Lib.hid hY
  have C0 := Lib.hid (show w.cell? ⟨bq, oq, none⟩ = some (.int .u8 q0) from by have := hq.rd.cell (j := 0) (x := q0) (by rw [hq0]; rfl); simpa using this)
  have SMA := Lib.hid (show MA.size = 5 by rw [hMA]; simp [IV, hMl])
  have AMA := Lib.hid (show MA.all (·.oneCell') = true by rw [hMA]; simp [IV, Value.oneCell'])
  have hi5 := Lib.hid (show (Tryd.prog.info? 59).map (·.size) = some MA.size by rw [SMA.out]; kernel_rfl)
  have hi5L := Lib.hid (show (Tryd.prog.info? 59).map (·.size) = some MA.toList.length by rw [Array.length_toList, SMA.out]; kernel_rfl)
  have SK := Lib.hid (show KL.length = 32 by rw [hKL, IV_length, hk])
  have I32 := Lib.hid (show (Tryd.prog.info? 22).map (·.size) = some KL.toArray.size by rw [show KL.toArray.size = 32 from SK.out]; kernel_rfl)
  have hu5 := Tryd.underlying59
  obtain ⟨Z, hZ⟩ : ∃ Z, Z = (IV .u8 (List.replicate 5 0)).toArray := ⟨_, rfl⟩
  have hz5 : ∀ w, (zeroValue 59).run Tryd.prog w = .ok (.agg Z) w := by rw [hZ]; exact zero5
  have ZS := Lib.hid (show Z.size = 5 by rw [hZ]; simp [IV])
  obtain ⟨ZB, hZB⟩ : ∃ ZB : Array Value, ZB = #[.bool false, .int .i64 0, .bool false, .slice none 0 0, .slice none 0 0, .slice none 0 0, .int .u64 0, .int .i64 0, .slice none 0 0, .slice none 0 0] := ⟨_, rfl⟩
  have hzb : ∀ w, (zeroValue 64).run Tryd.prog w = .ok (.agg ZB) w := by rw [hZB]; exact bare_zero
  obtain ⟨ZH, hZH⟩ : ∃ ZH : Array Value, ZH = #[.bool false, .int .i64 0, .bool false, .slice none 0 0, .slice none 0 0] := ⟨_, rfl⟩
  have hzh : ∀ w, (zeroValue 25).run Tryd.prog w = .ok (.agg ZH) w := by rw [hZH]; exact fun w => rfl
  have SZH := Lib.hid (show ZH.size = 5 by rw [hZH]; rfl)
  have I5H := Lib.hid (show (Tryd.prog.info? 25).map (·.size) = some 5 by kernel_rfl)
  have SZB := Lib.hid (show ZB.size = 10 by rw [hZB]; rfl)
  have HPH := Lib.hid hph
  have HNE := Lib.hid (show q ≠ [] by rw [hq0]; simp)
  have HQL : q.length ≤ 100000 := hql
  have HF0 := hFr
  obtain ⟨nq, hnq⟩ : ∃ n : Nat, n = q.length := ⟨_, rfl⟩
  clear hE hT hEn h1 h2 h3 h4 hq0 hM hF hMl hMb hq0r hMA hKL hX hXl hX0 hY hYl hD hDl hDb hNB u2 u3 v2 v3 x2 x3 hZ hZB hZH hph hq hqb hk hkb hnq hbq
  go_enter Tryd.func29, Tryd.ntmps29
  go_upto_region 1 with fail
  obtain ⟨W, hW⟩ : ∃ W, W = (w.alloc (.cells KL.toArray 22)).alloc (.cells ZB 64) := ⟨_, rfl⟩
  have bK := Lib.hid (show Blk W w.heap.size 22 KL.toArray by rw [hW]; exact (Blk.new w _ _).alloc _)
  have bB := Lib.hid (show Blk W (w.heap.size + 1) 64 ZB by rw [hW]; exact blk_second w _ _ _)
  have bL := Lib.hid (show Below w.heap.size w W by rw [hW]; exact ((Below.refl _ _).alloc (Nat.le_refl _) _).alloc (by simp) _)
  show Code.wp _ _ _ _ ((w.alloc (.cells KL.toArray 22)).alloc (.cells ZB 64))
  rw [← hW]
  obtain ⟨gB, hgB⟩ : ∃ g, g = w.heap.size + 1 := ⟨_, rfl⟩
  rw [← hgB] at bB ⊢
  have HGB := Lib.hid (show w.heap.size < gB by omega)
  have C1 := Lib.hid (CR.out W (HQ.out.below bL.out))
  clear hW hgB CR
  go_wp2_with (first
    | (go_at_call 43; refine C1.out.mono ?_; rintro r w1 ⟨A1, c1, A2, c2, rfl, o1, o2, b1⟩
       obtain ⟨HA, hHA⟩ : ∃ HA : Array Value, HA = #[.bool lg, .int .i64 lv, .bool false, .slice A1 a.length c1, .slice A2 b.length c2] := ⟨_, rfl⟩
       have HHA := Lib.hid hHA
       have SHA := Lib.hid (show HA.size = 5 by rw [hHA]; rfl)
       have AHA := Lib.hid (show HA.all (·.oneCell') = true by rw [hHA]; simp [Value.oneCell'])
       have O1 := Lib.hid o1
       have O2 := Lib.hid o2
       have B1 := Lib.hid b1
       rw [← hHA]
       clear o1 o2 b1 hHA)
    | (refine wpList_store_row rfl 25 (.tmp 6) (.tmp 17) rfl w1.heap.size HA rfl rfl 25 ZH (Blk.new w1 _ _) (by rw [SHA.out]; exact I5H.out) (by rw [SHA.out, SZH.out]) AHA.out ?_
       have H2 := Lib.hid (Blk.row (Blk.new w1 25 ZH) HA)
       have b2 := Lib.hid (below_setRow ((Below.refl w1.heap.size w1).alloc (Nat.le_refl _) (.cells ZH 25)) (Nat.le_refl _) HA)
       generalize (w1.alloc (.cells ZH 25)).setRow w1.heap.size HA = w2 at H2 b2 ⊢
       have BW2 := Lib.hid (B1.out.trans (b2.out.mono B1.out.size))
       have K2 := Lib.hid (bK.out.below BW2.out bK.out.lt)
       have CMx := Lib.hid (CM.out w2 (HQ.out.below (bL.out.trans (BW2.out.mono bL.out.size)))))
    | refine wpList_load_row rfl 22 (.tmp 3) rfl w.heap.size rfl 22 KL.toArray (0, 0) _ K2.out Tryd.underlying22 rfl I32.out ?_
    | (go_at_call 26; refine CMx.out.mono ?_; rintro r w3 ⟨rfl, b3⟩
       have B3 := Lib.hid b3
       clear b3)
    | (refine wpList_store_row rfl 59 (.tmp 10) (.tmp 28) rfl w3.heap.size MA rfl rfl 59 Z (Blk.new w3 _ _) hi5.out (by rw [SMA.out, ZS.out]) AMA.out ?_
       have M4 := Lib.hid (Blk.row (Blk.new w3 59 Z) MA)
       have b4 := Lib.hid (below_setRow ((Below.refl w3.heap.size w3).alloc (Nat.le_refl _) (.cells Z 59)) (Nat.le_refl _) MA)
       generalize (w3.alloc (.cells Z 59)).setRow w3.heap.size MA = w4 at M4 b4 ⊢))
  rw [show ∀ (a : Act) (v : Value), a.put none v = a from fun _ _ => rfl]
  obtain ⟨gM, hgM⟩ : ∃ g, g = w3.heap.size := ⟨_, rfl⟩
  obtain ⟨gH, hgH⟩ : ∃ g, g = w1.heap.size := ⟨_, rfl⟩
  rw [← hgM] at M4 ⊢
  rw [← hgH] at H2 ⊢
  have bw4 : Below W.heap.size W w4 := (BW2.out.trans (B3.out.mono BW2.out.size)).trans (b4.out.mono (BW2.out.trans (B3.out.mono BW2.out.size)).size)
  have BW4 := Lib.hid bw4
  have BL4 := Lib.hid (show Below w.heap.size w w4 from bL.out.trans (bw4.mono bL.out.size))
  have H4 := Lib.hid ((H2.out.below B3.out H2.out.lt).below b4.out (H2.out.below B3.out H2.out.lt).lt)
  have P1 := Lib.hid (((O1.out.below b2.out).below B3.out).below b4.out)
  have P2 := Lib.hid (((O2.out.below b2.out).below B3.out).below b4.out)
  have BB4 := Lib.hid (bB.out.below bw4 bB.out.lt)
  have HGS := Lib.hid (show w.heap.size < gB ∧ gB < W.heap.size ∧ W.heap.size ≤ gH ∧ gH < gM ∧ gM < w4.heap.size from ⟨HGB.out, bB.out.lt, by rw [hgH]; exact B1.out.size, by rw [hgM]; exact Nat.lt_of_lt_of_le H2.out.lt B3.out.size, M4.out.lt⟩)
  have cq : w4.cell? ⟨bq, oq, none⟩ = some (.int .u8 q0) := by
    have e : w4.cell? ⟨bq, oq, none⟩ = w.cell? ⟨bq, oq, none⟩ := BL4.out.cell (p := ⟨bq, oq, none⟩) HBQ.out
    rw [e]; exact C0.out
  have RX4 := Lib.hid (U2.out.below BL4.out)
  clear hgM hgH bw4 BW2 B3 b4 b2 H2 O1 O2 K2 bK B1 C1 CM CMx
  have S4 : w4.drew.rangeAt gM 0 MA.toList ∧ w4.drew.cell? ⟨bq, oq, none⟩ = some (.int .u8 q0) := ⟨(show Blk w4.drew gM _ _ from M4.out).range, cq⟩
  refine wp_region_held_drew (S := fun w' => w'.rangeAt gM 0 MA.toList ∧ w'.cell? ⟨bq, oq, none⟩ = some (.int .u8 q0)) (by kernel_rfl) S4 (fun hHeld => ?_)
  refine wpAnyH_take (i := 0) (oi := ⟨_, _, _, _, _, _⟩) (v := (.slice (some ⟨bq, oq, none⟩) q.length c)) rfl (by kernel_rfl) (by kernel_rfl) (by kernel_rfl) (fun _ _ _ h => h) (Or.inl ⟨by rfl, fun w _ => rfl⟩) hHeld ?_
  simp only [Act.put, List.setIfInBounds_toArray, List.set_cons_zero, List.set_cons_succ]
  refine wpAnyH_take (i := 1) (oi := ⟨_, _, _, _, _, _⟩) (v := (.pointer (some ⟨bq, oq, none⟩))) rfl (by kernel_rfl) (by kernel_rfl) (by kernel_rfl) (fun _ _ _ h => h) (Or.inl ⟨by rfl, fun w' hS => by go_simp; intro h; exact absurd h HNE.out⟩) hHeld ?_
  simp only [Act.put, List.setIfInBounds_toArray, List.set_cons_zero, List.set_cons_succ]
  refine wpAnyH_take (i := 2) (oi := ⟨_, _, _, _, _, _⟩) (v := (.int .u8 q0)) rfl (by kernel_rfl) (by kernel_rfl) (by kernel_rfl) (fun _ _ _ h => h) (Or.inl ⟨by rfl, fun w' hS => by obtain ⟨_, h2⟩ := hS; go_simp⟩) hHeld ?_
  simp only [Act.put, List.setIfInBounds_toArray, List.set_cons_zero, List.set_cons_succ]
  refine wpAnyH_take (i := 3) (oi := ⟨_, _, _, _, _, _⟩) rfl (by kernel_rfl) (by kernel_rfl) (by kernel_rfl) (fun _ _ _ h => h) (yieldsIf_load_mid (by rfl) 59 (.tmp 10) rfl gM 0 rfl MA.toList _ (fun w h => h.1) hu5 rfl hi5L.out) hHeld ?_
  simp only [Act.put, List.setIfInBounds_toArray, List.set_cons_zero, List.set_cons_succ]
  refine wpAnyH_ready (rs := [4]) (by kernel_rfl) (by simp) ?_
  refine AllReadyH.cons rfl (fun K hK => ?_) AllReadyH.nil
  go_simp
  refine (CF.out w4.drew).mono ?_
  rintro e5 w5 ⟨rfl, hw5⟩
  have b5 : Below w4.heap.size w4.drew w5 := by rw [hw5]; exact (Below.refl w4.heap.size w4.drew).alloc (Nat.le_refl _) _
  have M5 : Blk w5 gM 59 MA := (show Blk w4.drew gM _ _ from M4.out).below b5 M4.out.lt
  have cq5 : w5.cell? ⟨bq, oq, none⟩ = some (.int .u8 q0) := by
    have e : w5.cell? ⟨bq, oq, none⟩ = w4.drew.cell? ⟨bq, oq, none⟩ := b5.cell (p := ⟨bq, oq, none⟩) (by have h1 := HBQ.out; have h2 := BL4.out.size; show bq < w4.heap.size; omega)
    rw [e]; exact cq
  clear hw5
  refine hK.out _ _ ⟨M5.range, cq5⟩ (fun hHeld5 => ?_)
  clear hK K hHeld
  refine wpAnyH_take (i := 5) (oi := ⟨_, _, _, _, _, _⟩) (v := (.int .u8 F)) rfl (by kernel_rfl) (by kernel_rfl) (by kernel_rfl) (fun _ _ _ h => h) (Or.inl ⟨by rfl, fun w _ => rfl⟩) hHeld5 ?_
  simp only [Act.put, List.setIfInBounds_toArray, List.set_cons_zero, List.set_cons_succ]
  refine wpAnyH_done (by kernel_rfl) ?_ _
  have B5 := Lib.hid b5
  have M5h := Lib.hid M5
  have CCx := Lib.hid (CC.out B1 w5 ((RX4.out.drew).below b5) U3.out)
  have hw4 : IntKind.i64.wrap ((s : Int) - 1) = (s : Int) - 1 := IntWalk.i64_in _ (by omega)
  clear cq cq5 b5 M5 S4 hHeld5 CC
  go_wp2_with (first
    | (go_at_call 33; refine CCx.out.mono ?_; rintro r w6 ⟨A6, c6, rfl, o6, b6⟩
       have ex : X.length = T + s := XL.out
       obtain ⟨g6, hA6, hg6, hl6⟩ := o6.form (by omega)
       subst hA6
       have O6 := Lib.hid o6
       have b6' := Lib.hid (B5.out.trans (b6.mono B5.out.size))
       have b6'x := Lib.hid b6
       have c6x : ∃ v, w6.cell? ⟨g6, 0, none⟩ = some v := by
         have h := (Rd.of_own o6).cell (j := 0) (x := X[0]'(by omega)) (List.getElem?_eq_getElem _)
         exact ⟨_, by simpa using h⟩
       obtain ⟨v6, cv6⟩ := c6x
       have f6 := o6.frozen 0
       have O7 := Lib.hid (o6.store 0 F (by omega))
       rw [← HY.out] at O7
       have HG6 := Lib.hid (show w5.heap.size ≤ g6 ∧ g6 < w6.heap.size from ⟨hg6, hl6⟩)
       clear o6 b6 ex))
  have M7 := Lib.hid (show Blk (w6.setCell ⟨g6, 0, none⟩ (.int .u8 F)) gM 59 MA from ((M5h.out.below (b6'x.out) M5h.out.lt)).far (p := ⟨g6, 0, none⟩) (by have h1 := HG6.out; have h2 := M5h.out.lt; show gM ≠ g6; omega) _)
  have B7 := Lib.hid (show Below w4.heap.size w4.drew (w6.setCell ⟨g6, 0, none⟩ (.int .u8 F)) from b6'.out.setCell (p := ⟨g6, 0, none⟩) (by have h1 := HG6.out; have h2 := B5.out.size; show w4.heap.size ≤ g6; have h3 : w4.heap.size ≤ w5.heap.size := h2; omega) _)
  generalize w6.setCell ⟨g6, 0, none⟩ (.int .u8 F) = w7 at O7 M7 B7 ⊢
  have sl := slice_gl g6 (T + s) c6 T (by omega) (by have h := O7.out.cap.1; rw [YL.out] at h; exact h)
  rw [show T + s - T = s by omega] at sl
  have SLI := Lib.hid sl
  have HG7 := Lib.hid (show w4.heap.size ≤ g6 ∧ gM ≠ g6 from ⟨by have h1 := HG6.out; have h3 : w4.heap.size ≤ w5.heap.size := B5.out.size; omega, by have h1 := HG6.out; have h2 := M5h.out.lt; omega⟩)
  have H5S := Lib.hid (show w4.heap.size ≤ w5.heap.size from B5.out.size)
  clear sl b6' cv6 f6 v6 CCx RX4 U2 U3 u1 hw4 b6'x B5
  refine wp_region_held_drew (S := fun w' => w'.rangeAt gM 0 MA.toList) (by kernel_rfl) (show Blk w7.drew gM _ _ from M7.out).range (fun hHeld => ?_)
  refine wpAnyH_take (i := 0) (oi := ⟨_, _, _, _, _, _⟩) (v := (.slice (some ⟨g6, 0, none⟩) (T + s) c6)) rfl (by kernel_rfl) (by kernel_rfl) (by kernel_rfl) (fun _ _ _ h => h) (Or.inl ⟨by rfl, fun w _ => rfl⟩) hHeld ?_
  simp only [Act.put, List.setIfInBounds_toArray, List.set_cons_zero, List.set_cons_succ]
  refine wpAnyH_take (i := 1) (oi := ⟨_, _, _, _, _, _⟩) (v := (.int .i64 (T : Int))) rfl (by kernel_rfl) (by kernel_rfl) (by kernel_rfl) (fun _ _ _ h => h) (Or.inl ⟨by rfl, fun w _ => rfl⟩) hHeld ?_
  simp only [Act.put, List.setIfInBounds_toArray, List.set_cons_zero, List.set_cons_succ]
  refine wpAnyH_take (i := 2) (oi := ⟨_, _, _, _, _, _⟩) rfl (by kernel_rfl) (by kernel_rfl) (by kernel_rfl) (fun _ _ _ h => h) (yields_slice (r := .slice (some ⟨g6, T, none⟩) s (c6 - T)) (by rfl) 23 (.tmp 47) (some (.tmp 48)) none none rfl (fun w => SLI.out w)) hHeld ?_
  simp only [Act.put, List.setIfInBounds_toArray, List.set_cons_zero, List.set_cons_succ]
  refine wpAnyH_take (i := 3) (oi := ⟨_, _, _, _, _, _⟩) rfl (by kernel_rfl) (by kernel_rfl) (by kernel_rfl) (fun _ _ _ h => h) (yieldsIf_load_mid (by rfl) 59 (.tmp 10) rfl gM 0 rfl MA.toList _ (fun w h => h) hu5 rfl hi5L.out) hHeld ?_
  simp only [Act.put, List.setIfInBounds_toArray, List.set_cons_zero, List.set_cons_succ]
  refine wpAnyH_ready (rs := [4]) (by kernel_rfl) (by simp) ?_
  refine AllReadyH.cons rfl (fun K hK => ?_) AllReadyH.nil
  go_simp
  refine (CX.out g6 c6 w5.heap.size w7.drew O7.out (by have h := O7.out.cap.1; rw [YL.out] at h; exact h)).mono ?_
  rintro e8 w8 ⟨rfl, O8, g8⟩
  have M8 : Blk w8 gM 59 MA := (show Blk w7.drew gM _ _ from M7.out).grown g8 (by have := HG7.out; intro h; injection h; omega)
  refine hK.out _ _ M8.range (fun _ => ?_)
  clear hK K hHeld
  refine wpAnyH_done (by kernel_rfl) ?_ _
  have B8 := Lib.hid (show Below w4.heap.size w4.drew w8 from grown_below B7.out.drew g8 B7.out.size HG7.out.1)
  have O8h := Lib.hid O8
  clear M8 g8 O8 M7 B7 O7
  have H8 := Lib.hid ((show Blk w4.drew gH _ _ from H4.out).below B8.out H4.out.lt)
  have BB8 := Lib.hid ((show Blk w4.drew gB _ _ from BB4.out).below B8.out BB4.out.lt)
  have P18 := Lib.hid ((show Own w4.drew _ _ _ _ from P1.out).below B8.out)
  have P28 := Lib.hid ((show Own w4.drew _ _ _ _ from P2.out).below B8.out)
  have BL8 := Lib.hid (show Below w.heap.size w w8 from BL4.out.drew.trans (B8.out.mono BL4.out.size))
  have V8 := Lib.hid (V2.out.below BL8.out)
  have X8 := Lib.hid (X2.out.below BL8.out)
  have h80 := H8.out.cell 0
  have h82 := H8.out.cell 2
  have f82 := H8.out.frozen 2
  rw [HHA.out] at h80 h82
  clear H4 BB4 P1 P2 BL4 M4 BW4
  obtain ⟨w9, hw9⟩ : ∃ w9, w9 = w8.setCell ⟨gH, 2, none⟩ (.bool ph) := ⟨_, rfl⟩
  obtain ⟨HB, hHB⟩ : ∃ HB : Array Value, HB = #[.bool lg, .int .i64 lv, .bool ph, .slice A1 a.length c1, .slice A2 b.length c2] := ⟨_, rfl⟩
  have H9 := Lib.hid (show Blk w9 gH 25 HB by
    have h := H8.out.set_ 2 (.bool ph)
    rw [HHA.out] at h
    rw [hw9, hHB]; exact h)
  have hgo : W.heap.size ≤ gH := HGS.out.2.2.1
  have hws : w.heap.size ≤ gH := Nat.le_trans bL.out.size hgo
  have BB9 := Lib.hid (show Blk w9 gB 64 ZB by rw [hw9]; exact BB8.out.far (p := ⟨gH, 2, none⟩) (by have h := HGS.out; show gB ≠ gH; omega) _)
  have P19 := Lib.hid (show Own w9 W.heap.size A1 c1 a by rw [hw9]; exact set1_own P18.out H8.out (by decide) _)
  have P29 := Lib.hid (show Own w9 W.heap.size A2 c2 b by rw [hw9]; exact set1_own P28.out H8.out (by decide) _)
  have O9 := Lib.hid (show Own w9 w5.heap.size (some ⟨g6, 0, none⟩) c6 D by rw [hw9]; exact set1_own O8h.out H8.out (by decide) _)
  have BL9 := Lib.hid (show Below w.heap.size w w9 by rw [hw9]; exact BL8.out.setCell (p := ⟨gH, 2, none⟩) hws _)
  have V9 := Lib.hid (V2.out.below BL9.out)
  have X9 := Lib.hid (X2.out.below BL9.out)
  have SHB := Lib.hid (show HB.toList.length = 5 by rw [hHB]; rfl)
  have hiH := Lib.hid (show (Tryd.prog.info? 25).map (·.size) = some HB.toList.length by rw [SHB.out]; kernel_rfl)
  have huH := Tryd.underlying25
  have hD6 : D.length ≤ c6 := O9.out.cap.1
  obtain ⟨B6, y1, y2, _⟩ := slice_from (some ⟨g6, 0, none⟩) c6 D T .i64 (by have h := DL.out; omega) hD6
  rw [List.length_drop, DL.out, show T + s - T = s by omega] at y1
  have Y1 := Lib.hid y1
  have Y2 := Lib.hid (y2 w9 (Rd.of_own O9.out))
  have CNx := Lib.hid (CNu.out B6 (c6 - T) w9.drew Y2.out)
  obtain ⟨VB, hVB⟩ : ∃ VB : Array Value, VB = bareV lg lv ph A1 a.length c1 A2 b.length c2 (some ⟨g6, 0, none⟩) (T + s) c6 NB s B2 (En - (T + s)) (c - (T + s)) B3 (q.length - En) (c - En) := ⟨_, rfl⟩
  have BUI := Lib.hid (show Tryd.prog.built 64 [(0, .agg HB), (1, .slice (some ⟨g6, 0, none⟩) (T + s) c6), (2, .int .u64 NB), (3, .int .i64 (s : Int)), (4, .slice B2 (En - (T + s)) (c - (T + s))), (5, .slice B3 (q.length - En) (c - En))] = some VB by rw [hHB, hVB]; exact bare_built _ _ _ _ _ _ _ _ _ _ _ _ _ _ _ _ _ _ _ _)
  have SVB := Lib.hid (show VB.size = 10 by rw [hVB]; rfl)
  have AVB := Lib.hid (show VB.all (·.oneCell') = true by rw [hVB]; simp [bareV, Value.oneCell'])
  have HVB := Lib.hid hVB
  have hwTs := Lib.hid (show IntKind.i64.wrap ((T : Int) + (s : Int)) = (T : Int) + (s : Int) from IntWalk.i64_in _ (by omega))
  have HW9 := Lib.hid hw9
  have VV1 := Lib.hid v1
  have XX1 := Lib.hid x1
  have SB2 := Lib.hid (show Sl w9 B2 (c - (T + s)) ((q.take En).drop (T + s)) from ⟨V9.out, by have h := QL.out; simp; omega, by have h := QL.out; omega, fun e => absurd e V3.out⟩)
  have SB3 := Lib.hid (show Sl w9 B3 (c - En) (q.drop En) from ⟨X9.out, by have h := QL.out; simp; omega, by have h := QL.out; omega, fun e => absurd e X3.out⟩)
  clear hw9 hHB hgo hws hVB y1 y2 v1 x1 hD6 V8 X8 BL8 P18 P28 O8h BB8 CNu HHA SLI
  cases lg
  case' false =>
    go_upto_region 1 with fail
    show Code.wp _ _ _ _ (w8.setCell ⟨gH, 2, none⟩ (.bool (bits .and .u8 F 4 != 0)))
    rw [show w8.setCell ⟨gH, 2, none⟩ (.bool (bits .and .u8 F 4 != 0)) = w9 by rw [HW9.out, HPH.out]; simp]
  case' true =>
    go_upto_region 1 with fail
    show Code.wp _ _ _ _ (w8.setCell ⟨gH, 2, none⟩ (.bool false))
    rw [show w8.setCell ⟨gH, 2, none⟩ (.bool false) = w9 by rw [HW9.out, HPH.out]; simp]
  all_goals
    clear h80 h82 f82 H8 B8 HW9
    have S9 : w9.drew.rangeAt gH 0 HB.toList := (show Blk w9.drew gH _ _ from H9.out).range
    refine wp_region_held_drew (S := fun w' => w'.rangeAt gH 0 HB.toList) (by kernel_rfl) S9 (fun hHeld => ?_)
    refine wpAnyH_take (i := 0) (oi := ⟨_, _, _, _, _, _⟩) rfl (by kernel_rfl) (by kernel_rfl) (by kernel_rfl) (fun _ _ _ h => h) (yieldsIf_load_mid (by rfl) 25 (.tmp 6) rfl gH 0 rfl HB.toList _ (fun w h => h) huH rfl hiH.out) hHeld ?_
    simp only [Act.put, List.setIfInBounds_toArray, List.set_cons_zero, List.set_cons_succ]
    refine wpAnyH_take (i := 1) (oi := ⟨_, _, _, _, _, _⟩) (v := (.slice (some ⟨g6, 0, none⟩) (T + s) c6)) rfl (by kernel_rfl) (by kernel_rfl) (by kernel_rfl) (fun _ _ _ h => h) (Or.inl ⟨by rfl, fun w _ => rfl⟩) hHeld ?_
    simp only [Act.put, List.setIfInBounds_toArray, List.set_cons_zero, List.set_cons_succ]
    refine wpAnyH_take (i := 2) (oi := ⟨_, _, _, _, _, _⟩) (v := (.slice (some ⟨g6, 0, none⟩) (T + s) c6)) rfl (by kernel_rfl) (by kernel_rfl) (by kernel_rfl) (fun _ _ _ h => h) (Or.inl ⟨by rfl, fun w _ => rfl⟩) hHeld ?_
    simp only [Act.put, List.setIfInBounds_toArray, List.set_cons_zero, List.set_cons_succ]
    refine wpAnyH_take (i := 3) (oi := ⟨_, _, _, _, _, _⟩) (v := (.int .i64 (T : Int))) rfl (by kernel_rfl) (by kernel_rfl) (by kernel_rfl) (fun _ _ _ h => h) (Or.inl ⟨by rfl, fun w _ => rfl⟩) hHeld ?_
    simp only [Act.put, List.setIfInBounds_toArray, List.set_cons_zero, List.set_cons_succ]
    refine wpAnyH_take (i := 4) (oi := ⟨_, _, _, _, _, _⟩) rfl (by kernel_rfl) (by kernel_rfl) (by kernel_rfl) (fun _ _ _ h => h) (yields_slice (r := .slice B6 s (c6 - T)) (by rfl) 23 (.tmp 63) (some (.tmp 64)) none none rfl (fun w => Y1.out w)) hHeld ?_
    simp only [Act.put, List.setIfInBounds_toArray, List.set_cons_zero, List.set_cons_succ]
    refine wpAnyH_take (i := 6) (oi := ⟨_, _, _, _, _, _⟩) (v := (.int .i64 (s : Int))) rfl (by kernel_rfl) (by kernel_rfl) (by kernel_rfl) (fun _ _ _ h => h) (Or.inl ⟨by rfl, fun w _ => rfl⟩) hHeld ?_
    simp only [Act.put, List.setIfInBounds_toArray, List.set_cons_zero, List.set_cons_succ]
    refine wpAnyH_take (i := 7) (oi := ⟨_, _, _, _, _, _⟩) (v := (.slice (some ⟨bq, oq, none⟩) q.length c)) rfl (by kernel_rfl) (by kernel_rfl) (by kernel_rfl) (fun _ _ _ h => h) (Or.inl ⟨by rfl, fun w _ => rfl⟩) hHeld ?_
    simp only [Act.put, List.setIfInBounds_toArray, List.set_cons_zero, List.set_cons_succ]
    refine wpAnyH_take (i := 8) (oi := ⟨_, _, _, _, _, _⟩) (v := (.int .i64 (T : Int))) rfl (by kernel_rfl) (by kernel_rfl) (by kernel_rfl) (fun _ _ _ h => h) (Or.inl ⟨by rfl, fun w _ => rfl⟩) hHeld ?_
    simp only [Act.put, List.setIfInBounds_toArray, List.set_cons_zero, List.set_cons_succ]
    refine wpAnyH_take (i := 9) (oi := ⟨_, _, _, _, _, _⟩) (v := (.int .i64 (s : Int))) rfl (by kernel_rfl) (by kernel_rfl) (by kernel_rfl) (fun _ _ _ h => h) (Or.inl ⟨by rfl, fun w _ => rfl⟩) hHeld ?_
    simp only [Act.put, List.setIfInBounds_toArray, List.set_cons_zero, List.set_cons_succ]
    refine wpAnyH_take (i := 10) (oi := ⟨_, _, _, _, _, _⟩) (v := (.int .i64 ((T : Int) + (s : Int)))) rfl (by kernel_rfl) (by kernel_rfl) (by kernel_rfl) (fun _ _ _ h => h) (Or.inl ⟨by rfl, fun w' hS => by go_simp; exact hwTs.out⟩) hHeld ?_
    simp only [Act.put, List.setIfInBounds_toArray, List.set_cons_zero, List.set_cons_succ]
    refine wpAnyH_take (i := 11) (oi := ⟨_, _, _, _, _, _⟩) (v := (.int .i64 (En : Int))) rfl (by kernel_rfl) (by kernel_rfl) (by kernel_rfl) (fun _ _ _ h => h) (Or.inl ⟨by rfl, fun w _ => rfl⟩) hHeld ?_
    simp only [Act.put, List.setIfInBounds_toArray, List.set_cons_zero, List.set_cons_succ]
    refine wpAnyH_take (i := 12) (oi := ⟨_, _, _, _, _, _⟩) rfl (by kernel_rfl) (by kernel_rfl) (by kernel_rfl) (fun _ _ _ h => h) (yields_slice (r := .slice B2 (En - (T + s)) (c - (T + s))) (by rfl) 23 (.tmp 68) (some (.tmp 71)) (some (.tmp 72)) none rfl (fun w => VV1.out w)) hHeld ?_
    simp only [Act.put, List.setIfInBounds_toArray, List.set_cons_zero, List.set_cons_succ]
    refine wpAnyH_take (i := 13) (oi := ⟨_, _, _, _, _, _⟩) (v := (.slice (some ⟨bq, oq, none⟩) q.length c)) rfl (by kernel_rfl) (by kernel_rfl) (by kernel_rfl) (fun _ _ _ h => h) (Or.inl ⟨by rfl, fun w _ => rfl⟩) hHeld ?_
    simp only [Act.put, List.setIfInBounds_toArray, List.set_cons_zero, List.set_cons_succ]
    refine wpAnyH_take (i := 14) (oi := ⟨_, _, _, _, _, _⟩) (v := (.int .i64 (En : Int))) rfl (by kernel_rfl) (by kernel_rfl) (by kernel_rfl) (fun _ _ _ h => h) (Or.inl ⟨by rfl, fun w _ => rfl⟩) hHeld ?_
    simp only [Act.put, List.setIfInBounds_toArray, List.set_cons_zero, List.set_cons_succ]
    refine wpAnyH_take (i := 15) (oi := ⟨_, _, _, _, _, _⟩) rfl (by kernel_rfl) (by kernel_rfl) (by kernel_rfl) (fun _ _ _ h => h) (yields_slice (r := .slice B3 (q.length - En) (c - En)) (by rfl) 23 (.tmp 74) (some (.tmp 75)) none none rfl (fun w => XX1.out w)) hHeld ?_
    simp only [Act.put, List.setIfInBounds_toArray, List.set_cons_zero, List.set_cons_succ]
    refine wpAnyH_ready (rs := [5]) (by kernel_rfl) (by simp) ?_
    refine AllReadyH.cons rfl (fun K hK => ?_) AllReadyH.nil
    go_simp
    refine CNx.out.mono ?_
    rintro e10 w10 ⟨rfl, rfl⟩
    refine hK.out _ _ S9 (fun hHeld10 => ?_)
    clear hK K hHeld
    refine wpAnyH_take (i := 16) (oi := ⟨_, _, _, _, _, _⟩) rfl (by kernel_rfl) (by kernel_rfl) (by kernel_rfl) (fun _ _ _ h => h) (yields_build (cs := VB) (by rfl) 64 #[(0, .tmp 61), (1, .tmp 62), (2, .tmp 66), (3, .tmp 67), (4, .tmp 73), (5, .tmp 76)] rfl (by rw [List.map_toArray]; exact BUI.out)) hHeld10 ?_
    simp only [Act.put, List.setIfInBounds_toArray, List.set_cons_zero, List.set_cons_succ]
    refine wpAnyH_ready (rs := [17]) (by kernel_rfl) (by simp) ?_
    refine AllReadyH.cons rfl (fun K hK => ?_) AllReadyH.nil
    rw [if_pos (by rfl)]
    have BBd : Blk w9.drew gB 64 ZB := BB9.out
    refine wp_store_mid 64 (.tmp 4) (.tmp 77) rfl gB 0 VB rfl rfl (Blk.there_ BBd (by rw [SVB.out, SZB.out]; exact Nat.le_refl _)) (by rw [SVB.out]; kernel_rfl) AVB.out ?_
    simp only [List.getElem_toArray, List.getElem_cons_succ, List.getElem_cons_zero, Act.put, List.setIfInBounds_toArray, List.set_cons_succ, List.set_cons_zero]
    have hVl : VB.toList.length = ZB.size := by rw [SZB.out, Array.length_toList]; exact SVB.out
    have k11 : Blk (w9.drew.setCells gB 0 VB.toList) gB 64 VB := by
      have h := BBd.setAll hVl
      rwa [Array.toArray_toList] at h
    have g11 : w9.drew.grownBy (w9.drew.setCells gB 0 VB.toList) (some gB) := only_setCells _ _ _ (gb_self _ _)
    have hgB : gB < W.heap.size := HGS.out.2.1
    have b11 : Below w.heap.size w (w9.drew.setCells gB 0 VB.toList) := grown_below BL9.out.drew g11 BL9.out.size (by have h := HGB.out; omega)
    have p11 : Own (w9.drew.setCells gB 0 VB.toList) w.heap.size A1 c1 a := (Own.grown (show Own w9.drew _ _ _ _ from P19.out) g11 (fun g cur k' e => by injection e with e; subst e; exact absurd rfl (k'.ne_ BBd (by decide)))).base_le bL.out.size
    have p21 : Own (w9.drew.setCells gB 0 VB.toList) w.heap.size A2 c2 b := (Own.grown (show Own w9.drew _ _ _ _ from P29.out) g11 (fun g cur k' e => by injection e with e; subst e; exact absurd rfl (k'.ne_ BBd (by decide)))).base_le bL.out.size
    have o11 : Own (w9.drew.setCells gB 0 VB.toList) w.heap.size (some ⟨g6, 0, none⟩) c6 D := (Own.grown (show Own w9.drew _ _ _ _ from O9.out) g11 (fun g cur k' e => by injection e with e; subst e; exact absurd rfl (k'.ne_ BBd (by decide)))).base_le (Nat.le_of_lt (by have h1 := HGS.out; have h2 := HG7.out; have h3 : w4.heap.size ≤ w5.heap.size := H5S.out; omega))
    have v11 : Sl (w9.drew.setCells gB 0 VB.toList) B2 (c - (T + s)) ((q.take En).drop (T + s)) := ⟨V2.out.below b11, SB2.out.le, SB2.out.max, SB2.out.nil⟩
    have x11 : Sl (w9.drew.setCells gB 0 VB.toList) B3 (c - En) (q.drop En) := ⟨X2.out.below b11, SB3.out.le, SB3.out.max, SB3.out.nil⟩
    have K11 := Lib.hid k11
    have FIN := Lib.hid (And.intro p11 (And.intro p21 (And.intro o11 (And.intro v11 (And.intro x11 b11)))))
    have h11 : (w9.drew.setCells gB 0 VB.toList).rangeAt gH 0 HB.toList := ((show Blk w9.drew gH _ _ from H9.out).grown g11 (by have h1 := HGS.out; intro h; injection h; omega)).range
    refine hK.out _ _ h11 (fun hHeld11 => ?_)
    clear hK K hHeld10
    refine wpAnyH_take (i := 18) (oi := ⟨_, _, _, _, _, _⟩) (v := (.int .i64 0)) rfl (by kernel_rfl) (by kernel_rfl) (by kernel_rfl) (fun _ _ _ h => h) (Or.inl ⟨by rfl, fun w _ => rfl⟩) hHeld11 ?_
    simp only [Act.put, List.setIfInBounds_toArray, List.set_cons_zero, List.set_cons_succ]
    refine wpAnyH_done (by kernel_rfl) ?_ _
    clear k11 g11 b11 p11 p21 o11 v11 x11 h11 hHeld11 S9 BBd
    generalize w9.drew.setCells gB 0 VB.toList = w11 at K11 FIN ⊢
    go_wp2_with fail
    refine bodyPost_ret (results_row_tmp rfl _ _ gB 64 VB (0, 0) _ rfl K11.out Tryd.underlying64 rfl (by rw [SVB.out]; kernel_rfl)) rfl ?_
    exact ⟨A1, c1, A2, c2, some ⟨g6, 0, none⟩, c6, B2, c - (T + s), B3, c - En, by rw [DL.out, ← HVB.out]; rfl, FIN.out.1, FIN.out.2.1, FIN.out.2.2.1, FIN.out.2.2.2.1, FIN.out.2.2.2.2.1, FIN.out.2.2.2.2.2⟩
end Go.Proofs.YtjibbegdieiknaaDoor
