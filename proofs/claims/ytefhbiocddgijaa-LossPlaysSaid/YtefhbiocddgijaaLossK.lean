/-
  Due: sort.Search, slices.MinFunc, their closures.
-/
import Derived.Test.YtefhbiocddgijaaLossI
namespace Go.Proofs.Ytefhbiocddgijaa
open Go.RowKit
set_option linter.unusedVariables false
set_option linter.unusedSimpArgs false

theorem drewN_drewN' (w : World) (a b : Nat) : (w.drewN a).drewN b = w.drewN (a + b) := by simp [World.drewN, Nat.add_assoc]
theorem gb_below {w w' : World} (h : w.grownBy w' none) : Below w.heap.size w w' := ⟨h.os, h.tape, h.output, h.size, fun k hk => h.block k hk (by simp)⟩
/-- sort.Search at a closure that only reads. -/
theorem search_any (f : Nat) (cb : Array Value) (p : Nat → Bool) (n : Nat) (w : World) (eg : ∀ args w, (callFunc f args).run Try.prog w = .ok (.enter f args) w) (hn : n ≤ 1000000)
    (hf : ∀ m i, i < n → Calls Try.prog f (#[.int .i64 (i : Int)] ++ cb) (w.drewN m) fun e w' => e = .returned (.bool (p i)) ∧ ∃ q, w' = w.drewN q) (hm : ∀ a b, a ≤ b → b < n → p a = true → p b = true) :
    Calls Try.prog 29 #[.int .i64 (n : Int), .func (.func f) #[] cb] w fun e w' => ∃ r : Nat, e = .returned (.int .i64 (r : Int)) ∧ r ≤ n ∧ (∀ x, x < r → p x = false) ∧ (∀ x, r ≤ x → x < n → p x = true) ∧ ∃ q, w' = w.drewN q := by
  go_enter Try.func29, Try.ntmps29
  go_wp2_with fail
  go_loopw [5, 6] (fun a b wr => ∃ i j q : Nat, i ≤ j ∧ j ≤ n ∧ a = .int .i64 (i : Int) ∧ b = .int .i64 (j : Int) ∧ wr = w.drewN q ∧ (∀ x, x < i → p x = false) ∧ (∀ x, j ≤ x → x < n → p x = true)) (fun a b _ => (intOf b).toNat - (intOf a).toNat)
  case atStart => exact ⟨0, n, 0, by omega, by omega, rfl, rfl, rfl, (fun x h => by omega), (fun x h1 h2 => by omega)⟩
  case round =>
    obtain ⟨i, j, q, hij, hjn, rfl, rfl, rfl, hlo, hhi⟩ := hrel
    by_cases hlt : i < j
    · obtain ⟨h, hh⟩ : ∃ h : Nat, h = (i + j) / 2 := ⟨_, rfl⟩
      have hw1 : IntKind.i64.wrap ((i : Int) + j) = (i : Int) + j := IntWalk.i64_in _ (by omega)
      have hw2 : IntKind.u64.wrap ((i : Int) + j) = (i : Int) + j := IntWalk.u64_in _ (by omega)
      have hd2 : ((i : Int) + j) / 2 = (h : Int) := by omega
      have hw3 : IntKind.i64.wrap (h : Int) = (h : Int) := IntWalk.i64_in _ (by omega)
      have hw4 : IntKind.u64.wrap (h : Int) = (h : Int) := IntWalk.u64_in _ (by omega)
      have HLO := Lib.hid hlo
      have HHI := Lib.hid hhi
      have HH := Lib.hid hh
      have hhn : i ≤ h ∧ h < j := by omega
      have HF := Lib.hid (hf q h (by omega))
      clear hlo hhi hh
      go_wp2_with fail
      refine HF.out.mono ?_
      rintro e w2 ⟨rfl, q2, rfl⟩
      cases hp : p h
      · have HP := Lib.hid hp
        clear hp
        go_wp2_with fail
        go_roundw
        case rel => exact ⟨h + 1, j, q2, by omega, hjn, by go_num, rfl, rfl, fun x hx => by
          by_cases hxh : x ≤ h
          · cases hpx : p x
            · rfl
            · have := hm x h hxh (by omega) hpx
              rw [HP.out] at this
              cases this
          · omega, HHI.out⟩
        case measure => simp [intOf]; omega
      · have HP := Lib.hid hp
        clear hp
        go_wp2_with fail
        go_roundw
        case rel => exact ⟨i, h, q2, by omega, by omega, rfl, rfl, rfl, HLO.out, fun x hx hxn => hm h x hx hxn HP.out⟩
        case measure => simp [intOf]; omega
    · have hd : decide ((i : Int) < j) = false := by simpa using hlt
      obtain rfl : i = j := by omega
      have HLO := Lib.hid hlo
      have HHI := Lib.hid hhi
      clear hlo hhi
      go_wp2_with fail
      go_ret
      exact ⟨i, rfl, hjn, HLO.out, HHI.out, q, rfl⟩

/-- Due's first closure. -/
theorem due1_any (Bl base g : Nat) (A : Option Addr) (c : Nat) (l : LG) (w : World) (hB : Blk w Bl 24 #[.pointer (some ⟨g, 0, none⟩)]) (h : Led w base g A c l) (hl : l.op.length ≤ 1000000) (i : Nat) (p : PK) (hx : l.op[i]? = some p) :
    Calls Try.prog 30 #[.int .i64 (i : Int), .pointer (some ⟨Bl, 0, none⟩)] w fun e w' => e = .returned (.bool (decide (l.ak ≤ p.nu))) ∧ ∃ q, w' = w.drewN q := by
  have hi : i < l.op.length := by
    rcases Nat.lt_or_ge i l.op.length with h | h
    · exact h
    · rw [List.getElem?_eq_none h] at hx; cases hx
  obtain ⟨b, off, rfl, zb, hcell⟩ := OwnP.at0 h.own hx
  have x0 := hcell 0 (by omega)
  have c0 := h.blk.cell 0
  have c2 := h.blk.cell 2
  have b0 := hB.cell 0
  obtain ⟨nu, se, si, aq⟩ := p
  simp [PkC] at x0 c0 c2 b0
  clear hcell hx h hB
  by_cases hd : l.ak ≤ nu
  · go_enter Try.func30, Try.ntmps30
    go_wp2_with fail
    go_quiet (fail)
    go_wp2_with fail
    go_ret
    exact ⟨by simp [hd], _, rfl⟩
  · have hd2 : decide (l.ak ≤ nu) = false := by simpa using hd
    go_enter Try.func30, Try.ntmps30
    go_wp2_with fail
    go_quiet (fail)
    go_wp2_with fail
    go_ret
    exact ⟨by simp [hd], _, rfl⟩
/-- Due's second closure. -/
theorem due2_any (p q : PK) (w : World) : Calls Try.prog 32 #[.agg #[.int .u64 p.nu, .int .u64 p.se, .int .i64 p.si, .bool p.aq], .agg #[.int .u64 q.nu, .int .u64 q.se, .int .i64 q.si, .bool q.aq]] w fun e w' => e = .returned (.int .i64 (cmpN p.se q.se)) ∧ w.grownBy w' none := by
  have hcon := fun W' => Compare_any p.se q.se W'
  generalize cmpN p.se q.se = r at hcon ⊢
  go_enter Try.func32, Try.ntmps32
  go_wp2_with fail
  refine (hcon _).mono ?_
  rintro e w' ⟨rfl, rfl⟩
  go_wp2_with fail
  go_ret
  exact ⟨rfl, gb_then (World.grownBy_alloc w _ none) (World.grownBy_alloc _ _ none)⟩
def minP (m : PK) (l : List PK) : PK := l.foldl (fun m p => if p.se < m.se then p else m) m
theorem minP_snoc (m : PK) (l : List PK) (p : PK) : minP m (l ++ [p]) = if p.se < (minP m l).se then p else minP m l := by simp only [minP, List.foldl_append]; rfl
set_option maxRecDepth 100000 in
set_option maxHeartbeats 1000000 in
theorem minFunc_any (A : Option Addr) (c : Nat) (p0 : PK) (L : List PK) (w : World) (hr : RdP w A (p0 :: L)) (hl : L.length ≤ 1000000) :
    Calls Try.prog 31 #[.slice A (L.length + 1) c, .func (.func 32) #[] #[]] w fun e w' => e = .returned (.agg #[.int .u64 (minP p0 L).nu, .int .u64 (minP p0 L).se, .int .i64 (minP p0 L).si, .bool (minP p0 L).aq]) ∧ w.grownBy w' none := by
  obtain ⟨b, off, x, rfl, zb, hx, hcell⟩ := RdF.at_ PkC_len (by omega) hr (i := 0) (by simp)
  simp at hx
  subst hx
  have y0 := hcell 0 (by omega)
  have y1 := hcell 1 (by omega)
  have y2 := hcell 2 (by omega)
  have y3 := hcell 3 (by omega)
  simp [PkC] at y0 y1 y2 y3
  have HR := Lib.hid hr
  clear hr hcell
  go_enter Try.func31, Try.ntmps31
  go_wp2_with fail
  obtain ⟨W, hW⟩ : ∃ W, W = (w.alloc (.cells #[.int .u64 0, .int .u64 0, .int .i64 0, .bool false] 49)).alloc (.cells #[.int .u64 p0.nu, .int .u64 p0.se, .int .i64 p0.si, .bool p0.aq] 49) := ⟨_, rfl⟩
  have K1 : Blk W (w.heap.size + 1) 49 #[.int .u64 p0.nu, .int .u64 p0.se, .int .i64 p0.si, .bool p0.aq] := by
    rw [hW]
    have := Blk.new (w.alloc (.cells #[.int .u64 0, .int .u64 0, .int .i64 0, .bool false] 49)) 49 #[.int .u64 p0.nu, .int .u64 p0.se, .int .i64 p0.si, .bool p0.aq]
    rw [World.size_alloc] at this
    exact this
  have K0 : Blk W w.heap.size 49 #[.int .u64 0, .int .u64 0, .int .i64 0, .bool false] := by rw [hW]; exact (Blk.new w _ _).alloc _
  have G0 : w.grownBy W none := by rw [hW]; exact gb_then (World.grownBy_alloc w _ none) (World.grownBy_alloc _ _ none)
  rw [← hW]
  clear hW y0 y1 y2 y3
  go_loopw [6] (fun i wr => ∃ k : Nat, k ≤ L.length ∧ i = .int .i64 ((k : Int) + 1) ∧ Blk wr (w.heap.size + 1) 49 #[.int .u64 (minP p0 (L.take k)).nu, .int .u64 (minP p0 (L.take k)).se, .int .i64 (minP p0 (L.take k)).si, .bool (minP p0 (L.take k)).aq] ∧ Blk wr w.heap.size 49 #[.int .u64 0, .int .u64 0, .int .i64 0, .bool false] ∧ w.grownBy wr none) (fun i _ => L.length + 1 - (intOf i).toNat)
  case atStart => exact ⟨0, by omega, rfl, K1, K0, G0⟩
  case round =>
    obtain ⟨k, hk, rfl, k1, k0, hg⟩ := hrel
    clear K1 K0 G0
    by_cases hlt : k < L.length
    · obtain ⟨x, hx⟩ : ∃ x, L[k]? = some x := ⟨_, List.getElem?_eq_getElem hlt⟩
      have hts := take_snoc hx
      have hr1 := HR.out.below (gb_below hg)
      obtain ⟨b', off', x', e1, zb1, hx1, hcell⟩ := RdF.at_ PkC_len (by omega) hr1 (i := k + 1) (by simp; omega)
      injection e1 with e1
      injection e1 with e2 e3
      subst e2 e3
      rw [List.getElem?_cons_succ, hx] at hx1
      injection hx1 with hx1
      subst hx1
      have y0 := hcell 0 (by omega)
      have y1 := hcell 1 (by omega)
      have y2 := hcell 2 (by omega)
      have y3 := hcell 3 (by omega)
      simp [PkC] at y0 y1 y2 y3
      rw [← Nat.add_assoc] at y1 y2 y3
      have hmin := minP_snoc p0 (L.take k) x
      rw [← hts] at hmin
      generalize minP p0 (L.take k) = M at *
      have m0 := k1.cell 0
      have m1 := k1.cell 1
      have m2 := k1.cell 2
      have m3 := k1.cell 3
      simp at m0 m1 m2 m3
      have HM := Lib.hid hmin
      have hc0 := due2_any x M
      have hV : cmpN x.se M.se < 0 ↔ x.se < M.se := by unfold cmpN; split <;> (try split) <;> omega
      generalize cmpN x.se M.se = V at hc0 hV
      have HV := Lib.hid hV
      have HC := Lib.hid hc0
      clear hc0 hV
      have H1 := Lib.hid k1
      have H0 := Lib.hid k0
      have HG := Lib.hid hg
      have HX := Lib.hid hx
      have hw1 : IntKind.i64.wrap ((k : Int) + 1 + 1) = (k : Int) + 1 + 1 := IntWalk.i64_in _ (by omega)
      clear hmin k1 k0 hg hx hr1 hcell hts
      go_wp2_with fail
      go_region_with (go_at_call 32; (with_reducible refine (HC.out _).mono ?_); rintro e w2 ⟨rfl, g2⟩)
      all_goals (
        have g2 := gb_then (gb_drewN (gb_refl wr none) 1) g2
        try simp only [List.getElem_toArray, List.getElem_cons_succ, List.getElem_cons_zero, Act.put, List.setIfInBounds_toArray, List.set_cons_succ, List.set_cons_zero]
        have hx2 := gb_below (show wr.grownBy w2 none from g2)
        have k1 := H1.out.below hx2 H1.out.lt
        have k0 := H0.out.below hx2 H0.out.lt
        have hg := gb_then HG.out (show wr.grownBy w2 none from g2)
        have z1 := HG.out.size
        have y0' : w2.cell? ⟨b, off + (k + 1) * 4, none⟩ = some (.int .u64 x.nu) := (hx2.cell (p := ⟨b, off + (k + 1) * 4, none⟩) zb1).trans y0
        have y1' : w2.cell? ⟨b, off + (k + 1) * 4 + 1, none⟩ = some (.int .u64 x.se) := (hx2.cell (p := ⟨b, off + (k + 1) * 4 + 1, none⟩) zb1).trans y1
        have y2' : w2.cell? ⟨b, off + (k + 1) * 4 + 2, none⟩ = some (.int .i64 x.si) := (hx2.cell (p := ⟨b, off + (k + 1) * 4 + 2, none⟩) zb1).trans y2
        have y3' : w2.cell? ⟨b, off + (k + 1) * 4 + 3, none⟩ = some (.bool x.aq) := (hx2.cell (p := ⟨b, off + (k + 1) * 4 + 3, none⟩) zb1).trans y3
        clear y0 y1 y2 y3 m0 m1 m2 m3 hx2 g2 HC
        have f0 := k1.frozen 0
        have f1 := k1.frozen 1
        have f2 := k1.frozen 2
        have f3 := k1.frozen 3
        have m0 := k1.cell 0
        have m1 := k1.cell 1
        have m2 := k1.cell 2
        have m3 := k1.cell 3
        simp at m0 m1 m2 m3
        have H1 := Lib.hid k1
        have H0 := Lib.hid k0
        have HG := Lib.hid hg
        clear k1 k0 hg
        by_cases hc : x.se < M.se
        · have HE := Lib.hid (show minP p0 (L.take (k + 1)) = x by rw [HM.out, if_pos hc])
          rw [show decide (V < 0) = true by simpa using HV.out.2 hc]
          clear HM
          go_wp2_with fail
          go_roundw
          case rel =>
            refine ⟨k + 1, by omega, by go_num, ?_, ?_, ?_⟩
            · rw [HE.out]
              have := Blk.set_ (Blk.set_ (Blk.set_ (Blk.set_ H1.out 0 (.int .u64 x.nu)) 1 (.int .u64 x.se)) 2 (.int .i64 x.si)) 3 (.bool x.aq)
              simpa using this
            · with_reducible refine Blk.far ?_ (by simp) _
              with_reducible refine Blk.far ?_ (by simp) _
              with_reducible refine Blk.far ?_ (by simp) _
              with_reducible refine Blk.far ?_ (by simp) _
              exact H0.out
            · have hset : ∀ (W : World) (i : Nat) (u : Value), w.grownBy W none → w.grownBy (W.setCell ⟨w.heap.size + 1, i, none⟩ u) none := fun W i u h => ⟨h.os, h.tape, h.output, by simpa [World.setCell] using h.size, fun k hk hne => (Below.heap_setCell W _ u k (by simp; omega)).trans (h.block k hk hne)⟩
              with_reducible refine hset _ _ _ ?_
              with_reducible refine hset _ _ _ ?_
              with_reducible refine hset _ _ _ ?_
              with_reducible refine hset _ _ _ ?_
              exact HG.out
          case measure => simp [intOf]; omega
        · have HE := Lib.hid (show minP p0 (L.take (k + 1)) = M by rw [HM.out, if_neg hc])
          clear HM
          rw [show decide (V < 0) = false by simpa using fun h => hc (HV.out.1 h)]
          go_wp2_with fail
          go_roundw
          case rel => exact ⟨k + 1, by omega, by go_num, by rw [HE.out]; exact H1.out, H0.out, HG.out⟩
          case measure => simp [intOf]; omega)
    · have hd : decide ((k : Int) + 1 < (L.length : Int) + 1) = false := by simp; omega
      have hk2 : L.take k = L := List.take_of_length_le (by omega)
      rw [hk2] at k1
      obtain ⟨M, hM⟩ : ∃ M, M = minP p0 L := ⟨_, rfl⟩
      rw [← hM] at k1
      have HMM := Lib.hid hM
      clear hM
      have m0 := k1.cell 0
      have m1 := k1.cell 1
      have m2 := k1.cell 2
      have m3 := k1.cell 3
      simp at m0 m1 m2 m3
      have f0 := k0.frozen 0
      have f1 := k0.frozen 1
      have f2 := k0.frozen 2
      have f3 := k0.frozen 3
      have z0 := k0.lt
      have n0 := k0.cell 0
      have n1 := k0.cell 1
      have n2 := k0.cell 2
      have n3 := k0.cell 3
      simp at n0 n1 n2 n3
      have H0 := Lib.hid k0
      have HG := Lib.hid hg
      clear k1 k0 hg hk2
      go_wp2_with fail
      have hset : ∀ (W : World) (i : Nat) (u : Value), w.grownBy W none → w.grownBy (W.setCell ⟨w.heap.size, i, none⟩ u) none := fun W i u h => ⟨h.os, h.tape, h.output, by simpa [World.setCell] using h.size, fun k hk hne => (Below.heap_setCell W _ u k (by simp; omega)).trans (h.block k hk hne)⟩
      have KZ := Blk.set_ (Blk.set_ (Blk.set_ (Blk.set_ H0.out 0 (.int .u64 M.nu)) 1 (.int .u64 M.se)) 2 (.int .i64 M.si)) 3 (.bool M.aq)
      refine bodyPost_ret (v := .agg #[.int .u64 M.nu, .int .u64 M.se, .int .i64 M.si, .bool M.aq]) (results_cell_row rfl _ _ w.heap.size 49 _ (0, 0) _ rfl KZ Try.underlying49 rfl (by kernel_rfl)) rfl ⟨by rw [← HMM.out], ?_⟩
      with_reducible refine hset _ _ _ ?_
      with_reducible refine hset _ _ _ ?_
      with_reducible refine hset _ _ _ ?_
      with_reducible refine hset _ _ _ ?_
      exact HG.out

theorem take_filter (l : List PK) (a : Int) (r : Nat) (hr : r ≤ l.length) (h1 : ∀ x p, x < r → l[x]? = some p → p.nu < a) (h2 : ∀ x p, r ≤ x → l[x]? = some p → a ≤ p.nu) : l.filter (fun p => decide (p.nu < a)) = l.take r := by
  conv => lhs; rw [← List.take_append_drop r l, List.filter_append]
  have e1 : (l.take r).filter (fun p => decide (p.nu < a)) = l.take r := List.filter_eq_self.2 fun p hp => by
    obtain ⟨i, hi, rfl⟩ := List.mem_iff_getElem.1 hp
    have hi' : i < r := by simp at hi; omega
    have := h1 i l[i] hi' (List.getElem?_eq_getElem (by omega))
    simpa using this
  have e2 : (l.drop r).filter (fun p => decide (p.nu < a)) = [] := List.filter_eq_nil_iff.2 fun p hp => by
    obtain ⟨i, hi, rfl⟩ := List.mem_iff_getElem.1 hp
    have hi' : r + i < l.length := by simp at hi; omega
    have := h2 (r + i) l[r + i] (by omega) (List.getElem?_eq_getElem hi')
    simp
    omega
  rw [e1, e2, List.append_nil]
def lowL (l : LG) : List PK := l.op.filter (fun p => decide (p.nu < l.ak))
def dueN (l : LG) (wait : Int) : Int × Bool := match lowL l with
  | [] => (0, false)
  | p :: L => ((minP p L).se + min wait 4611686018427387903, true)
theorem lowL_take {l : LG} (ok : LgOk l) : lowL l = l.op.take (lowL l).length ∧ (lowL l).length ≤ l.op.length := by
  have hle : (lowL l).length ≤ l.op.length := List.length_filter_le _ _
  refine ⟨?_, hle⟩
  obtain ⟨r, hr, h1, h2⟩ : ∃ r, r ≤ l.op.length ∧ (∀ x p, x < r → l.op[x]? = some p → p.nu < l.ak) ∧ (∀ x p, r ≤ x → l.op[x]? = some p → l.ak ≤ p.nu) := by
    have hup := List.pairwise_iff_getElem.1 ok.up
    suffices h : ∀ n, n ≤ l.op.length → ∃ r, r ≤ n ∧ (∀ x p, x < r → l.op[x]? = some p → p.nu < l.ak) ∧ (∀ x p, r ≤ x → x < n → l.op[x]? = some p → l.ak ≤ p.nu) by
      obtain ⟨r, a, b, c⟩ := h l.op.length (Nat.le_refl _)
      exact ⟨r, a, b, fun x p hx hp => c x p hx (by
        rcases Nat.lt_or_ge x l.op.length with h | h
        · exact h
        · rw [List.getElem?_eq_none h] at hp; cases hp) hp⟩
    intro n
    induction n with
    | zero => intro _; exact ⟨0, by omega, fun x p hx => by omega, fun x p h1 h2 => by omega⟩
    | succ n ih =>
      intro hn
      obtain ⟨r, a, b, c⟩ := ih (by omega)
      by_cases hd : l.op[n].nu < l.ak
      · refine ⟨n + 1, Nat.le_refl _, fun x p hx hp => ?_, fun x p h1 h2 => by omega⟩
        rcases Nat.lt_or_ge x n with h | h
        · have := hup x n (by omega) (by omega) h
          rw [List.getElem?_eq_getElem (by omega)] at hp
          injection hp with hp
          subst hp
          omega
        · obtain rfl : x = n := by omega
          rw [List.getElem?_eq_getElem (by omega)] at hp
          injection hp with hp
          subst hp
          exact hd
      · refine ⟨r, by omega, b, fun x p h1 h2 hp => ?_⟩
        rcases Nat.lt_or_ge x n with h | h
        · exact c x p h1 h hp
        · obtain rfl : x = n := by omega
          rw [List.getElem?_eq_getElem (by omega)] at hp
          injection hp with hp
          subst hp
          omega
  have e : lowL l = l.op.take r := take_filter l.op l.ak r hr h1 h2
  have : (lowL l).length = r := by rw [e]; simp; omega
  rw [this]
  exact e
/-- sort.Search, as Due asks it. -/
theorem dueSearch_any (Bl base g : Nat) (A : Option Addr) (c : Nat) (l : LG) (w : World) (hB : Blk w Bl 24 #[.pointer (some ⟨g, 0, none⟩)]) (h : Led w base g A c l) (ok : LgOk l) (hl : l.op.length ≤ 1000000) :
    Calls Try.prog 29 #[.int .i64 (l.op.length : Int), .func (.func 30) #[] #[.pointer (some ⟨Bl, 0, none⟩)]] w fun e w' => e = .returned (.int .i64 ((lowL l).length : Int)) ∧ ∃ q, w' = w.drewN q := by
  have hup := List.pairwise_iff_getElem.1 ok.up
  have hget : ∀ i, i < l.op.length → ∃ p, l.op[i]? = some p := fun i hi => ⟨_, List.getElem?_eq_getElem hi⟩
  refine (search_any 30 #[.pointer (some ⟨Bl, 0, none⟩)] (fun i => match l.op[i]? with | some p => decide (l.ak ≤ p.nu) | none => true) l.op.length w (enters_of Try.func30 (by kernel_rfl) rfl) hl ?_ ?_).mono ?_
  · intro m i hi
    obtain ⟨p, hp⟩ := hget i hi
    rw [hp]
    refine (due1_any Bl base g A c l (w.drewN m) (hB.drewN m) (h.drewN m) hl i p hp).mono ?_
    rintro e w' ⟨rfl, q, rfl⟩
    exact ⟨rfl, m + q, drewN_drewN' w m q⟩
  · intro a b hab hb hpa
    obtain ⟨p, hp⟩ := hget a (by omega)
    obtain ⟨p2, hp2⟩ := hget b hb
    rw [hp] at hpa
    rw [hp2]
    simp only [decide_eq_true_eq] at hpa ⊢
    rw [List.getElem?_eq_getElem (by omega)] at hp hp2
    injection hp with hp
    injection hp2 with hp2
    rcases Nat.lt_or_ge a b with hlt | hge
    · have := hup a b (by omega) hb hlt
      rw [hp, hp2] at this
      omega
    · obtain rfl : a = b := by omega
      rw [hp] at hp2
      rw [← hp2]
      exact hpa
  · rintro e w' ⟨r, rfl, hr, h1, h2, hq⟩
    have e1 : lowL l = l.op.take r := take_filter l.op l.ak r hr (fun x p hx hp => by
      have := h1 x hx
      rw [hp] at this
      simp at this
      exact this) (fun x p hx hp => by
      have hxl : x < l.op.length := by
        rcases Nat.lt_or_ge x l.op.length with h | h
        · exact h
        · rw [List.getElem?_eq_none h] at hp; cases hp
      have := h2 x hx hxl
      rw [hp] at this
      simpa using this)
    have e2 : (lowL l).length = r := by rw [e1]; simp; omega
    exact ⟨by rw [e2], hq⟩
theorem LDue_nil (t : Int) (w : World) : Calls Try.prog 16 #[.pointer none, .int .u64 t] w fun r w' => r = .returned (.tuple #[.int .u64 0, .bool false]) ∧ Below w.heap.size w w' := by
  go_enter Try.func16, Try.ntmps16
  go_wp2_with fail
  exact bodyPost_ret (results_tmp2 rfl _ _ _) rfl ⟨rfl, (Below.refl _ _).alloc (Nat.le_refl _) _⟩
end Go.Proofs.Ytefhbiocddgijaa
