/-
  TalkSetups (made by mkTalkS.py).
-/
import Derived.Test.YtdcjnkakibeigaaDoorTJB
namespace Go.Proofs.YtdcjnkakibeigaaDoor
open Go.RowKit
set_option linter.unusedVariables false
set_option linter.unusedSimpArgs false
theorem IV_setS (l : List Int) (i : Nat) (y : Int) : IV .u64 (l.set i y) = (IV .u64 l).set i (.int .u64 y) := by simp [IV, List.map_set]
theorem ownU_put {W : World} {N c i : Nat} {A : Option Addr} {l : List Int} (h : OwnV W N 22 1 A c l.length (IV .u64 l)) (hi : i < l.length) :
    ∃ g x, A = some ⟨g, 0, none⟩ ∧ N ≤ g ∧ g < W.heap.size ∧ l[i]? = some x ∧ W.cell? ⟨g, i, none⟩ = some (.int .u64 x) ∧ W.frozen? ⟨g, i, none⟩ = false ∧ ∀ y, OwnV (W.setCell ⟨g, i, none⟩ (.int .u64 y)) N 22 1 A c l.length (IV .u64 (l.set i y)) := by
  obtain ⟨g, u, e, hg, hu, hc⟩ := OwnV.at_ h hi
  subst e
  obtain ⟨x, hx, rfl⟩ : ∃ x, l[i]? = some x ∧ u = .int .u64 x := by
    simp only [IV, List.getElem?_map, Option.map_eq_some_iff] at hu
    obtain ⟨x, h1, h2⟩ := hu
    exact ⟨x, h1, h2.symm⟩
  obtain ⟨h1, h2⟩ := h
  rcases h2 with ⟨h2, h3⟩ | ⟨g', cap, cur', hv, hg', hh, h3, h4, h5, h6⟩
  · cases h2
  · injection hv with e1 e2 e3
    injection e1 with e1
    injection e1 with e1 e4
    subst e1
    refine ⟨g, x, rfl, hg', hg, hx, hc, Blk.frozen hh _, fun y => ?_⟩
    unfold OwnV
    rw [IV_setS]
    refine ⟨by simpa using h1, .inr ⟨g, cap, cur'.setIfInBounds i (.int .u64 y), by rw [e3], hg', Blk.set_ hh _ _, h3, h4, by simpa using h5, ?_⟩⟩
    rw [Array.toList_setIfInBounds, List.take_set, h6]
theorem slice_uptoS (A : Option Addr) (n c k : Nat) (kd : IntKind) (hk : k ≤ c) (w : World) :
    (Instr.slice 26 (.slice A n c) none (some (.int kd (k : Int))) none).run Tryd.prog w = .ok (.slice A k c) w := by
  have hel : Tryd.prog.elem 26 = 22 := by kernel_rfl
  have hs : (sizeOf 22).run Tryd.prog w = .ok 1 w := by
    have h : (Tryd.prog.info? 22).map (·.size) = some 1 := by kernel_rfl
    obtain ⟨i, hi⟩ : ∃ i, Tryd.prog.info? 22 = some i := by
      cases h' : Tryd.prog.info? 22 with
      | none => rw [h'] at h; cases h
      | some i => exact ⟨i, rfl⟩
    have hsz : i.size = 1 := by rw [hi] at h; injection h
    simp [sizeOf, typeInfo, hi, hsz]
  rw [run_slice_h (P := Tryd.prog) w 26 A n c (by rw [hel]; exact Tryd.underlying26) kd (k : Int) (by omega) (by omega), hel, hs]
  cases A <;> simp [sliced, Addr.add]
def mod5 (l : List Int) (k : Nat) : List Int := (l.take k).map (· % 5) ++ l.drop k
theorem mod5_len (l : List Int) (k : Nat) : (mod5 l k).length = l.length := by simp [mod5]; omega
theorem mod5_at {l : List Int} {k : Nat} {x : Int} (h : (mod5 l k)[k]? = some x) (hk : k < l.length) : l[k]? = some x := by
  unfold mod5 at h
  rw [List.getElem?_append_right (by simp; omega)] at h
  simpa [Nat.min_eq_left (by omega : k ≤ l.length)] using h
theorem mod5_set {l : List Int} {k : Nat} {x : Int} (hx : l[k]? = some x) : (mod5 l k).set k (x % 5) = mod5 l (k + 1) := by
  have hk : k < l.length := by
    rcases Nat.lt_or_ge k l.length with h | h
    · exact h
    · rw [List.getElem?_eq_none h] at hx; cases hx
  rw [List.getElem?_eq_getElem hk] at hx
  injection hx with hx
  unfold mod5
  rw [List.drop_eq_getElem_cons hk, hx, List.set_append_right _ _ (by simp; omega)]
  simp only [List.length_map, List.length_take, Nat.min_eq_left (by omega : k ≤ l.length), Nat.sub_self, List.set_cons_zero]
  rw [List.take_add_one, List.getElem?_eq_getElem hk, hx]
  simp
theorem one_snoc {l : List Int} {k : Nat} {x : Int} (hx : l[k]? = some x) : decide ((1 : Int) ∈ (l.take (k + 1)).map (· % 5)) = (decide ((1 : Int) ∈ (l.take k).map (· % 5)) || decide (x % 5 = 1)) := by
  rw [List.take_add_one, hx, List.map_append]
  rw [← Bool.decide_or]
  apply decide_eq_decide.2
  simp only [List.mem_append, Option.toList_some, List.map_cons, List.map_nil, List.mem_singleton]
  constructor
  · rintro (h | h)
    · exact .inl h
    · exact .inr h.symm
  · rintro (h | h)
    · exact .inl h
    · exact .inr h.symm
set_option maxRecDepth 20000 in
set_option maxHeartbeats 16000000 in
theorem setups_walk (b : Bool) (A : Option Addr) (c : Nat) (l : List Int) (v0 n0 : Int) (w : World) (ht : Tab w) (hr : RdI .u64 w A l) (hb : ∀ x ∈ l, 0 ≤ x) (hlc : l.length ≤ c) (v00 : 0 ≤ v0) (n00 : 0 ≤ n0) :
    Calls Tryd.prog 6 #[.bool b, .slice A l.length c, .int .u64 v0, .int .u64 n0] w fun r w' => r = .returned (.bool true) ∧ Below w.heap.size w w' := by
  obtain ⟨L, hL⟩ : ∃ L, L = l.take 8 := ⟨_, rfl⟩
  have hLl : L.length = min 8 l.length := by rw [hL, List.length_take]
  have hbL : ∀ x ∈ L, 0 ≤ x := fun x hx => hb x (by rw [hL] at hx; exact List.mem_of_mem_take hx)
  have RL := Lib.hid (show Reads w w.heap.size 1 A L.length (IV .u64 L) from by
    have e60 : l.take L.length = L := by
      rw [hLl]
      rcases Nat.le_total 8 l.length with h | h
      · rw [Nat.min_eq_left h, hL]
      · rw [Nat.min_eq_right h, hL, List.take_length, List.take_of_length_le h]
    have := Reads.upto hr (k := L.length) (by omega)
    simpa [IV, ← List.map_take, e60] using this)
  have SL := Lib.hid (fun W => slice_uptoS A l.length c L.length .i64 (by omega) W)
  have Z1 : (if (l.length : Int) < 8 then (l.length : Int) else 8) = (L.length : Int) := by split <;> omega
  have Z2 : (if (8 : Int) < l.length then (8 : Int) else (l.length : Int)) = (L.length : Int) := by split <;> omega
  have Z3 : min (l.length : Int) 8 = (L.length : Int) := by omega
  have Z4 : min (8 : Int) (l.length : Int) = (L.length : Int) := by omega
  have h8 : L.length ≤ 8 := by omega
  have HZ := Lib.hid (And.intro Z1 (And.intro Z2 (And.intro Z3 Z4)))
  have HBL := Lib.hid hbL
  obtain ⟨v, hv⟩ : ∃ v, v = v0 % 5 := ⟨_, rfl⟩
  obtain ⟨n, hn⟩ : ∃ n, n = n0 % 4611686018427387904 := ⟨_, rfl⟩
  have HV := Lib.hid (And.intro hv hn)
  have HVB := Lib.hid (show (0 ≤ v ∧ v < 5) ∧ (0 ≤ n ∧ n < 4611686018427387904) by omega)
  have HT := Lib.hid ht
  have AW := Lib.hid (awake17_any w ht)
  clear hr hb hL hLl hbL Z1 Z2 Z3 Z4 hv hn ht
  go_enter Tryd.func6, Tryd.ntmps6
  go_wp2_with fail
  refine AW.out.mono ?_
  rintro e w1 ⟨rfl, b1⟩
  have B1 := Lib.hid b1
  have z1 := b1.size
  clear b1 AW
  go_upto_region 3 with (fail)
  obtain ⟨Z1, Z2, Z3, Z4⟩ := HZ.out
  have sl := SL.out (w1.alloc (.cells #[] 22))
  go_upto_region 4 with (at_builtin; go_must (refine wpList_appV2 rfl (.tmp 17) (.tmp 22) 26 22 1 8 (.int .u64 0) rfl Tryd.underlying26 info_u64T rfl (by omega) w.heap.size (n := 0) (m := L.length) (xs := []) (news := IV .u64 L) (d := c) rfl rfl (ownU_0 _ z1) ((RL.out.below (B1.out.alloc z1 _)).more (by simp; omega)) (IV_one _) (by unfold maxLen; omega) (by omega) (by simp; omega) ?_); intro A1 c1 w2 hown hg hb hrow)
  have O2 := Lib.hid (show OwnV w2 w.heap.size 22 1 A1 c1 (mod5 L 0).length (IV .u64 (mod5 L 0)) by simpa [mod5] using hown)
  have B2 := Lib.hid ((B1.out.alloc z1 _).trans hb)
  clear hown hg hb hrow sl Z1 Z2 Z3 Z4 RL SL HZ B1 z1
  go_upto_region 5 with (fail)
  rw [← HV.out.1, ← HV.out.2]
  go_wp2_with fail
  go_loopw [30, 9, 10] (fun i o q wr => ∃ (k : Nat) (z : Value), k ≤ L.length ∧ i = .int .i64 k ∧ o = .bool (decide ((1 : Int) ∈ (L.take k).map (· % 5))) ∧ q = z ∧ OwnV wr w.heap.size 22 1 A1 c1 (mod5 L k).length (IV .u64 (mod5 L k)) ∧ Below w.heap.size w wr) (fun i _ _ _ => L.length - (intOf i).toNat)
  case atStart => exact ⟨0, _, by omega, rfl, by simp, rfl, O2.out, B2.out⟩
  case round =>
    obtain ⟨k, z, hk, rfl, rfl, rfl, o1, bb⟩ := hrel
    by_cases hlt : k < L.length
    · obtain ⟨g, x, e, hg, hgl, hx, hc, hf, hput⟩ := ownU_put o1 (i := k) (by rw [mod5_len]; exact hlt)
      have hx := mod5_at hx hlt
      have x0 := HBL.out x (List.mem_of_getElem? hx)
      have hst := mod5_set hx
      have hon := one_snoc hx
      have o2 := hput (x % 5)
      rw [hst, mod5_len, ← mod5_len L (k + 1)] at o2
      obtain ⟨y, hy⟩ : ∃ y, y = x % 5 := ⟨_, rfl⟩
      have hmk : (mod5 L (k + 1))[k]? = some y := by rw [← hst, List.getElem?_set_self (by rw [mod5_len]; exact hlt), hy]
      rw [← hy] at o2 hon
      have HY := Lib.hid hy
      have BB := Lib.hid (bb.setCell (p := ⟨g, k, none⟩) hg (.int .u64 y))
      have O3 := Lib.hid o2
      have HON := Lib.hid hon
      clear o1 o2 hput hst hx hy hon bb
      obtain ⟨o, ho⟩ : ∃ o, o = decide ((1 : Int) ∈ (L.take k).map (· % 5)) := ⟨_, rfl⟩
      rw [← ho] at HON ⊢
      clear ho
      subst e
      go_upto_region 10 with (fail)
      rw [← HY.out]
      obtain ⟨w3, hw3⟩ : ∃ v, v = wr.setCell ⟨g, k, none⟩ (.int .u64 y) := ⟨_, rfl⟩
      have hc3 : w3.cell? ⟨g, k, none⟩ = some (.int .u64 y) := by
        obtain ⟨g', u, e, _, hu, hc'⟩ := OwnV.at_ O3.out (show k < (mod5 L (k + 1)).length by rw [mod5_len]; exact hlt)
        injection e with e
        injection e with e
        subst e
        rw [← hw3] at hc'
        rw [hc', ← hu]
        simp [IV, hmk]
      rw [← hw3] at O3 BB ⊢
      have hgl3 : g < w3.heap.size := by rw [hw3]; simpa [World.setCell] using hgl
      clear hw3 hc hf hgl hmk
      cases o
      · go_wp2_with fail
        go_roundw
        case rel => exact ⟨k + 1, _, by omega, by go_num, by rw [HON.out]; by_cases hq : y = 1 <;> simp [hq], rfl, O3.out, BB.out⟩
        case measure => simp [intOf]; omega
      · go_wp2_with fail
        go_roundw
        case rel => exact ⟨k + 1, _, by omega, by go_num, by rw [HON.out]; by_cases hq : y = 1 <;> simp [hq], rfl, O3.out, BB.out⟩
        case measure => simp [intOf]; omega
    · have hd : decide (k < L.length) = false := by simpa using hlt
      have hk2 : k = L.length := by omega
      rw [hk2] at o1
      rw [hk2, List.take_length]
      clear O2 B2 hlt hk
      subst hk2
      have hVS : mod5 L L.length = L.map (· % 5) := by simp [mod5]
      rw [hVS, List.length_map] at o1
      obtain ⟨VS, hvs⟩ : ∃ VS, VS = L.map (· % 5) := ⟨_, rfl⟩
      have hVl : VS.length = L.length := by rw [hvs, List.length_map]
      have hVB : ∀ x ∈ VS, 0 ≤ x ∧ x < 5 := by
        rw [hvs]
        intro x hx
        obtain ⟨y, hy, rfl⟩ := List.mem_map.1 hx
        have := HBL.out y hy
        omega
      rw [← hvs] at o1 ⊢
      have O5 := Lib.hid o1
      have B5 := Lib.hid bb
      have HVL := Lib.hid hVl
      have HVV := Lib.hid hVB
      clear hvs hVS hVl hVB o1 bb HBL
      obtain ⟨one, hone⟩ : ∃ one, one = decide ((1 : Int) ∈ VS) := ⟨_, rfl⟩
      rw [← hone]
      have HO := Lib.hid hone
      clear hone
      go_wp2_with fail
      refine (New_any b w wr B5.out).mono ?_
      rintro e w5 ⟨g, s, rfl, S5, hgg, b5, sb, smet, scode, srow⟩
      have HRG := Lib.hid (show ∀ a, A1 = some a → a.block ≠ g from fun a e => by subst e; have := OwnV.row_lt O5.out (k := a.block) rfl; omega)
      have O6 := Lib.hid (OwnV.below O5.out b5)
      have HS5 := Lib.hid S5
      have HF := Lib.hid (And.intro sb (And.intro smet (And.intro scode srow)))
      clear O5 B5 S5 hgg b5 sb smet scode srow
      have R6 := Lib.hid (show RdI .u64 w5 A1 VS from by have := OwnV.reads O6.out; rw [← HVL.out] at this; exact this)
      obtain ⟨⟨v1, v2⟩, n1, n2⟩ := HVB.out
      have h8' : VS.length ≤ 8 := by have := HVL.out; omega
      have SU1 := Lib.hid (show SetupM true (mvCS n VS) one from ⟨goodCS n VS n1 n2 HVV.out h8', rfl, fun _ => (by rw [HO.out]; exact decide_eq_true_iff), fun e => (by cases e), rfl, rfl⟩)
      have SU2 := Lib.hid (show SetupM false (mvSV v n) (decide (v = 1)) from ⟨goodSV v n n1 n2 v1 v2, rfl, fun e => (by cases e), fun _ => decide_eq_true_iff, rfl, rfl⟩)
      have VC := Lib.hid (valid_CS n VS n2 (fun x hx => by have := HVV.out x hx; omega) h8')
      have VV := Lib.hid (valid_SV v n n2 v2)
      have HB5 := Lib.hid HS5.out.bel
      clear HVB v1 v2 n1 n2 HVV h8 h8'
      have q5 := Blk.new w5 31 #[.int .u64 0, .int .u64 0, .int .u64 0, .slice none 0 0, .int .u8 0, .int .u8 0, .int .u64 0, .int .u64 0, .int .u64 0, .int .u64 0, .bool false, .int .u64 0, .slice none 0 0, .int .u64 0, .int .u64 0, .slice none 0 0]
      go_upto_region 14 with (refine wpList_store_row rfl 31 (.tmp 12) (.tmp 52) rfl w5.heap.size _ rfl rfl 31 _ q5 info_msgL rfl (by simp [Value.oneCell']) ?_)
      obtain ⟨w6, hw6⟩ : ∃ u : World, u = (w5.alloc (.cells #[.int .u64 0, .int .u64 0, .int .u64 0, .slice none 0 0, .int .u8 0, .int .u8 0, .int .u64 0, .int .u64 0, .int .u64 0, .int .u64 0, .bool false, .int .u64 0, .slice none 0 0, .int .u64 0, .int .u64 0, .slice none 0 0] 31)).setRow w5.heap.size #[.int .u64 33, .int .u64 0, .int .u64 0, .slice none 0 0, .int .u8 0, .int .u8 0, .int .u64 0, .int .u64 0, .int .u64 0, .int .u64 0, .bool false, .int .u64 0, .slice none 0 0, .int .u64 n, .int .u64 v, .slice none 0 0] := ⟨_, rfl⟩
      obtain ⟨gm, hgm⟩ : ∃ g, g = w5.heap.size := ⟨_, rfl⟩
      have k6 : Blk w6 gm 31 #[.int .u64 33, .int .u64 0, .int .u64 0, .slice none 0 0, .int .u8 0, .int .u8 0, .int .u64 0, .int .u64 0, .int .u64 0, .int .u64 0, .bool false, .int .u64 0, .slice none 0 0, .int .u64 n, .int .u64 v, .slice none 0 0] := by rw [hw6, hgm]; exact setRowT q5 _
      have b6 : Below w5.heap.size w5 w6 := by rw [hw6]; exact below_gsL ((Below.refl _ _).alloc (Nat.le_refl _) _) (only_setRowT _ _ _) (Nat.le_refl _) (by simp)
      rw [← hw6, ← hgm]
      have S6 := Lib.hid (HS5.out.below b6)
      have R7 := Lib.hid (R6.out.below b6)
      have K6 := Lib.hid k6
      have HGM := Lib.hid (show w.heap.size ≤ gm by have := HB5.out.size; omega)
      have HRM := Lib.hid (show ∀ a, A1 = some a → a.block ≠ gm from fun a e => by subst e; have := OwnV.row_lt O6.out (k := a.block) rfl; omega)
      have HNG := Lib.hid (show gm ≠ g by have := HS5.out.blk.lt; omega)
      clear q5 hw6 hgm k6 b6 HS5 R6 HB5 O6
      cases b
      · clear VC SU1 R7 HO HVL HRG
        have RN := Lib.hid (fun W => RdI.nil .u64 W none)
        have C1 := Lib.hid (setup_first g s none 0 w6 (HT.out.below S6.out.bel) SU2.out VV.out S6.out.blk HF.out.1 HF.out.2.1 HF.out.2.2.1 (fun e => by cases e) (RN.out w6))
        have AG := Lib.hid (fun W s' (hb : Below w.heap.size w W) (hS : HT17 w6 W g s' true 0) => setup_again g s' none 0 W (HT.out.below hb) SU2.out VV.out hS.blk hS.met hS.code (RN.out W))
        unfold mvC mvSV at C1 AG
        simp only [List.length_nil] at C1 AG
        clear SU2 VV RN HF
        by_cases hv1 : v = 1
        · subst hv1
          rw [decide_eq_true rfl] at C1
          have k0 := K6.out.cell 0
          have k1 := K6.out.cell 1
          have k2 := K6.out.cell 2
          have k3 := K6.out.cell 3
          have k4 := K6.out.cell 4
          have k5 := K6.out.cell 5
          have k6 := K6.out.cell 6
          have k7 := K6.out.cell 7
          have k8 := K6.out.cell 8
          have k9 := K6.out.cell 9
          have k10 := K6.out.cell 10
          have k11 := K6.out.cell 11
          have k12 := K6.out.cell 12
          have k13 := K6.out.cell 13
          have k14 := K6.out.cell 14
          have k15 := K6.out.cell 15
          simp only [List.getElem?_toArray, List.getElem?_cons_zero, List.getElem?_cons_succ] at k0 k1 k2 k3 k4 k5 k6 k7 k8 k9 k10 k11 k12 k13 k14 k15
          have zk := K6.out.lt
          go_wp2_with fail
          refine C1.out.mono ?_
          rintro e w7 ⟨rfl, s7, h7⟩
          have S7 := Lib.hid (h7.sc S6.out)
          have U7 := Lib.hid (Up_code g w7 true 0 h7.blk.lt (by have := h7.blk.cell 1; rw [show s7.cells[1]? = some (.bool s7.met) from rfl, h7.met] at this; exact this) (by have := h7.blk.cell 2; rw [show s7.cells[2]? = some (.int .u64 s7.code) from rfl, h7.code] at this; exact this))
          have K7 := Lib.hid (h7.frm.keep K6.out HNG.out)
          have C2 := Lib.hid (AG.out w7 s7 S7.out.bel h7)
          clear h7 C1 AG k0 k1 k2 k3 k4 k5 k6 k7 k8 k9 k10 k11 k12 k13 k14 k15 zk
          go_wp2_with fail
          refine U7.out.mono ?_
          rintro e w8 ⟨rfl, rfl⟩
          have k0 := K7.out.cell 0
          have k1 := K7.out.cell 1
          have k2 := K7.out.cell 2
          have k3 := K7.out.cell 3
          have k4 := K7.out.cell 4
          have k5 := K7.out.cell 5
          have k6 := K7.out.cell 6
          have k7 := K7.out.cell 7
          have k8 := K7.out.cell 8
          have k9 := K7.out.cell 9
          have k10 := K7.out.cell 10
          have k11 := K7.out.cell 11
          have k12 := K7.out.cell 12
          have k13 := K7.out.cell 13
          have k14 := K7.out.cell 14
          have k15 := K7.out.cell 15
          simp only [List.getElem?_toArray, List.getElem?_cons_zero, List.getElem?_cons_succ] at k0 k1 k2 k3 k4 k5 k6 k7 k8 k9 k10 k11 k12 k13 k14 k15
          have zk := K7.out.lt
          go_wp2_with fail
          refine C2.out.mono ?_
          rintro e w8 ⟨rfl, s8, h8⟩
          have S8 := Lib.hid (h8.sc S7.out)
          have U8 := Lib.hid (Up_code g w8 true 3 h8.blk.lt (by have := h8.blk.cell 1; rw [show s8.cells[1]? = some (.bool s8.met) from rfl, h8.met] at this; exact this) (by have := h8.blk.cell 2; rw [show s8.cells[2]? = some (.int .u64 s8.code) from rfl, h8.code] at this; exact this))
          clear h8 C2 k0 k1 k2 k3 k4 k5 k6 k7 k8 k9 k10 k11 k12 k13 k14 k15 zk
          go_wp2_with fail
          refine U8.out.mono ?_
          rintro e w9 ⟨rfl, rfl⟩
          go_wp2_with fail
          go_ret
          exact ⟨rfl, S8.out.bel⟩
        · have hvd : decide (v = 1) = false := by simpa using hv1
          rw [hvd] at C1
          clear AG
          have k0 := K6.out.cell 0
          have k1 := K6.out.cell 1
          have k2 := K6.out.cell 2
          have k3 := K6.out.cell 3
          have k4 := K6.out.cell 4
          have k5 := K6.out.cell 5
          have k6 := K6.out.cell 6
          have k7 := K6.out.cell 7
          have k8 := K6.out.cell 8
          have k9 := K6.out.cell 9
          have k10 := K6.out.cell 10
          have k11 := K6.out.cell 11
          have k12 := K6.out.cell 12
          have k13 := K6.out.cell 13
          have k14 := K6.out.cell 14
          have k15 := K6.out.cell 15
          simp only [List.getElem?_toArray, List.getElem?_cons_zero, List.getElem?_cons_succ] at k0 k1 k2 k3 k4 k5 k6 k7 k8 k9 k10 k11 k12 k13 k14 k15
          have zk := K6.out.lt
          go_wp2_with fail
          refine C1.out.mono ?_
          rintro e w7 ⟨rfl, s7, h7⟩
          have S7 := Lib.hid (h7.sc S6.out)
          have U7 := Lib.hid (Up_code g w7 false 21 h7.blk.lt (by have := h7.blk.cell 1; rw [show s7.cells[1]? = some (.bool s7.met) from rfl, h7.met] at this; exact this) (by have := h7.blk.cell 2; rw [show s7.cells[2]? = some (.int .u64 s7.code) from rfl, h7.code] at this; exact this))
          clear h7 C1
          go_wp2_with fail
          refine U7.out.mono ?_
          rintro e w8 ⟨rfl, rfl⟩
          go_wp2_with fail
          go_ret
          exact ⟨rfl, S7.out.bel⟩
      · clear VV SU2
        have q6 := K6.out
        go_upto_region 18 with (refine wpList_store_row rfl 31 (.tmp 12) (.tmp 58) rfl gm _ rfl rfl 31 _ q6 info_msgL rfl (by simp [Value.oneCell']) ?_)
        obtain ⟨w6b, hw7⟩ : ∃ u : World, u = w6.setRow gm #[.int .u64 32, .int .u64 0, .int .u64 0, .slice none 0 0, .int .u8 0, .int .u8 0, .int .u64 0, .int .u64 0, .int .u64 0, .int .u64 0, .bool false, .int .u64 0, .slice none 0 0, .int .u64 n, .int .u64 0, .slice A1 L.length c1] := ⟨_, rfl⟩
        have k7 : Blk w6b gm 31 #[.int .u64 32, .int .u64 0, .int .u64 0, .slice none 0 0, .int .u8 0, .int .u8 0, .int .u64 0, .int .u64 0, .int .u64 0, .int .u64 0, .bool false, .int .u64 0, .slice none 0 0, .int .u64 n, .int .u64 0, .slice A1 L.length c1] := by rw [hw7]; exact setRowT q6 _
        have f7 : Frm w6 w6b (fun b => b = gm) := by rw [hw7]; exact ⟨rfl, rfl, rfl, by simp, fun b hb hn => setRow_other _ gm b _ hn⟩
        rw [← hw7]
        have S6' := Lib.hid (show Sc w w6b g s from ⟨f7.keep S6.out.blk (fun e => HNG.out e.symm), S6.out.bel.trans (f7.below S6.out.bel.size (by rintro b hb rfl; have := HGM.out; omega)), S6.out.hg⟩)
        have R6' := Lib.hid (rdI_frm R7.out f7 HRM.out)
        clear q6 hw7 f7 K6 R7 S6
        have S6 := S6'
        have K6 := Lib.hid k7
        clear S6' k7
        rcases Nat.eq_zero_or_pos L.length with h0 | hpos
        · have C1 := Lib.hid (setup_bad g s A1 c1 w6b (HT.out.below S6.out.bel) SU1.out (VC.out.trans (decide_eq_false (by rw [HVL.out]; omega))) S6.out.blk HF.out.2.2.1 R6'.out)
          rw [HF.out.2.1] at C1
          unfold mvC mvCS at C1
          simp only [List.length_nil] at C1
          rw [HVL.out] at C1
          have h0i : (L.length : Int) = 0 := by omega
          have h0d : decide ((L.length : Int) = 0) = true := by simpa using h0
          clear SU1 VC HF R6' h0 HO HVL
          go_upto_region 19 with (fail)
          clear h0i h0d
          have k0 := K6.out.cell 0
          have k1 := K6.out.cell 1
          have k2 := K6.out.cell 2
          have k3 := K6.out.cell 3
          have k4 := K6.out.cell 4
          have k5 := K6.out.cell 5
          have k6 := K6.out.cell 6
          have k7 := K6.out.cell 7
          have k8 := K6.out.cell 8
          have k9 := K6.out.cell 9
          have k10 := K6.out.cell 10
          have k11 := K6.out.cell 11
          have k12 := K6.out.cell 12
          have k13 := K6.out.cell 13
          have k14 := K6.out.cell 14
          have k15 := K6.out.cell 15
          simp only [List.getElem?_toArray, List.getElem?_cons_zero, List.getElem?_cons_succ] at k0 k1 k2 k3 k4 k5 k6 k7 k8 k9 k10 k11 k12 k13 k14 k15
          have zk := K6.out.lt
          go_wp2_with fail
          refine C1.out.mono ?_
          rintro e w7 ⟨rfl, s7, h7⟩
          have S7 := Lib.hid (h7.sc S6.out)
          have U7 := Lib.hid (Up_code g w7 false 3 h7.blk.lt (by have := h7.blk.cell 1; rw [show s7.cells[1]? = some (.bool s7.met) from rfl, h7.met] at this; exact this) (by have := h7.blk.cell 2; rw [show s7.cells[2]? = some (.int .u64 s7.code) from rfl, h7.code] at this; exact this))
          clear h7 C1
          go_wp2_with fail
          refine U7.out.mono ?_
          rintro e w8 ⟨rfl, rfl⟩
          go_wp2_with fail
          go_ret
          exact ⟨rfl, S7.out.bel⟩
        · have hpi : ¬ (L.length : Int) = 0 := by omega
          have hpd : decide ((L.length : Int) = 0) = false := by simpa using hpi
          have C1 := Lib.hid (setup_first g s A1 c1 w6b (HT.out.below S6.out.bel) SU1.out (VC.out.trans (decide_eq_true (by rw [HVL.out]; omega))) S6.out.blk HF.out.1 HF.out.2.1 HF.out.2.2.1 (fun _ => HF.out.2.2.2 rfl) R6'.out)
          have AG := Lib.hid (fun W s' (hb : Below w.heap.size w W) (hS : HT17 w6b W g s' true 0) => setup_again g s' A1 c1 W (HT.out.below hb) SU1.out (VC.out.trans (decide_eq_true (by rw [HVL.out]; omega))) hS.blk hS.met hS.code (rdI_frm R6'.out hS.frm HRG.out))
          unfold mvC mvCS at C1 AG
          simp only [List.length_nil] at C1 AG
          rw [HVL.out] at C1 AG
          clear SU1 VC HF R6' HO
          cases one
          · clear AG
            have k0 := K6.out.cell 0
            have k1 := K6.out.cell 1
            have k2 := K6.out.cell 2
            have k3 := K6.out.cell 3
            have k4 := K6.out.cell 4
            have k5 := K6.out.cell 5
            have k6 := K6.out.cell 6
            have k7 := K6.out.cell 7
            have k8 := K6.out.cell 8
            have k9 := K6.out.cell 9
            have k10 := K6.out.cell 10
            have k11 := K6.out.cell 11
            have k12 := K6.out.cell 12
            have k13 := K6.out.cell 13
            have k14 := K6.out.cell 14
            have k15 := K6.out.cell 15
            simp only [List.getElem?_toArray, List.getElem?_cons_zero, List.getElem?_cons_succ] at k0 k1 k2 k3 k4 k5 k6 k7 k8 k9 k10 k11 k12 k13 k14 k15
            have zk := K6.out.lt
            go_wp2_with fail
            refine C1.out.mono ?_
            rintro e w7 ⟨rfl, s7, h7⟩
            have S7 := Lib.hid (h7.sc S6.out)
            have U7 := Lib.hid (Up_code g w7 false 21 h7.blk.lt (by have := h7.blk.cell 1; rw [show s7.cells[1]? = some (.bool s7.met) from rfl, h7.met] at this; exact this) (by have := h7.blk.cell 2; rw [show s7.cells[2]? = some (.int .u64 s7.code) from rfl, h7.code] at this; exact this))
            clear h7 C1
            go_wp2_with fail
            refine U7.out.mono ?_
            rintro e w8 ⟨rfl, rfl⟩
            go_wp2_with fail
            go_ret
            exact ⟨rfl, S7.out.bel⟩
          · skip
            have k0 := K6.out.cell 0
            have k1 := K6.out.cell 1
            have k2 := K6.out.cell 2
            have k3 := K6.out.cell 3
            have k4 := K6.out.cell 4
            have k5 := K6.out.cell 5
            have k6 := K6.out.cell 6
            have k7 := K6.out.cell 7
            have k8 := K6.out.cell 8
            have k9 := K6.out.cell 9
            have k10 := K6.out.cell 10
            have k11 := K6.out.cell 11
            have k12 := K6.out.cell 12
            have k13 := K6.out.cell 13
            have k14 := K6.out.cell 14
            have k15 := K6.out.cell 15
            simp only [List.getElem?_toArray, List.getElem?_cons_zero, List.getElem?_cons_succ] at k0 k1 k2 k3 k4 k5 k6 k7 k8 k9 k10 k11 k12 k13 k14 k15
            have zk := K6.out.lt
            go_wp2_with fail
            refine C1.out.mono ?_
            rintro e w7 ⟨rfl, s7, h7⟩
            have S7 := Lib.hid (h7.sc S6.out)
            have U7 := Lib.hid (Up_code g w7 true 0 h7.blk.lt (by have := h7.blk.cell 1; rw [show s7.cells[1]? = some (.bool s7.met) from rfl, h7.met] at this; exact this) (by have := h7.blk.cell 2; rw [show s7.cells[2]? = some (.int .u64 s7.code) from rfl, h7.code] at this; exact this))
            have K7 := Lib.hid (h7.frm.keep K6.out HNG.out)
            have C2 := Lib.hid (AG.out w7 s7 S7.out.bel h7)
            clear h7 C1 AG k0 k1 k2 k3 k4 k5 k6 k7 k8 k9 k10 k11 k12 k13 k14 k15 zk
            go_wp2_with fail
            refine U7.out.mono ?_
            rintro e w8 ⟨rfl, rfl⟩
            have k0 := K7.out.cell 0
            have k1 := K7.out.cell 1
            have k2 := K7.out.cell 2
            have k3 := K7.out.cell 3
            have k4 := K7.out.cell 4
            have k5 := K7.out.cell 5
            have k6 := K7.out.cell 6
            have k7 := K7.out.cell 7
            have k8 := K7.out.cell 8
            have k9 := K7.out.cell 9
            have k10 := K7.out.cell 10
            have k11 := K7.out.cell 11
            have k12 := K7.out.cell 12
            have k13 := K7.out.cell 13
            have k14 := K7.out.cell 14
            have k15 := K7.out.cell 15
            simp only [List.getElem?_toArray, List.getElem?_cons_zero, List.getElem?_cons_succ] at k0 k1 k2 k3 k4 k5 k6 k7 k8 k9 k10 k11 k12 k13 k14 k15
            have zk := K7.out.lt
            go_wp2_with fail
            refine C2.out.mono ?_
            rintro e w8 ⟨rfl, s8, h8⟩
            have S8 := Lib.hid (h8.sc S7.out)
            have U8 := Lib.hid (Up_code g w8 true 3 h8.blk.lt (by have := h8.blk.cell 1; rw [show s8.cells[1]? = some (.bool s8.met) from rfl, h8.met] at this; exact this) (by have := h8.blk.cell 2; rw [show s8.cells[2]? = some (.int .u64 s8.code) from rfl, h8.code] at this; exact this))
            clear h8 C2 k0 k1 k2 k3 k4 k5 k6 k7 k8 k9 k10 k11 k12 k13 k14 k15 zk
            go_wp2_with fail
            refine U8.out.mono ?_
            rintro e w9 ⟨rfl, rfl⟩
            go_wp2_with fail
            go_ret
            exact ⟨rfl, S8.out.bel⟩
theorem wf_u64S {n : Int} (h : (Lit.int .u64 n).wf = true) : 0 ≤ n := by
  have := bounds_u64 h
  omega
theorem setups_walkF (b : Bool) (A : Option Addr) (c : Nat) (l : List Int) (v0 n0 : Int) (w : World) (ht : Tab w) (hr : RdI .u64 w A l) (hw : WF .u64 l) (hlc : l.length ≤ c) (hcm : c ≤ 9223372036854775807) (hA : A = none → c = 0) (wv : (Lit.int .u64 v0).wf = true) (wn : (Lit.int .u64 n0).wf = true) :
    Calls Tryd.prog 6 #[.bool b, .slice A l.length c, .int .u64 v0, .int .u64 n0] w fun r w' => r = .returned (.bool true) ∧ Below w.heap.size w w' :=
  setups_walk b A c l v0 n0 w ht hr (fun x hx => wf_u64S (hw x hx)) hlc (wf_u64S wv) (wf_u64S wn)
end Go.Proofs.YtdcjnkakibeigaaDoor
