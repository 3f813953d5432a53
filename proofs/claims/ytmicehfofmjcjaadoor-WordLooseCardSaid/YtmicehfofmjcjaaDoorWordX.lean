/-
  WordLoose.
-/
import Derived.Test.YtmicehfofmjcjaaDoorWordW
import Derived.Test.YtmicehfofmjcjaaDoorWordV
import Derived.Test.YtmicehfofmjcjaaDoorWordR
import Derived.Test.YtmicehfofmjcjaaDoorVintG
import Derived.Deep.DeepCutAuto
namespace Go.Proofs.YtmicehfofmjcjaaDoor
open Go.RowKit
set_option linter.unusedVariables false
set_option linter.unusedSimpArgs false
/-- The size that is taken: a power of two that suffices. -/
theorem pick_sizeW (n s : Int) (h0 : 0 ≤ n) (hn : n < 4611686018427387904) (hs : s = 1 ∨ s = 2 ∨ s = 4 ∨ s = 8) : ∃ (k : Nat) (b t : Int), IsSize k k b t ∧ n < b ∧ (k : Int) = max (vsize n) s := by
  unfold IsSize
  have hv : (vsize n = 1 ∧ n < 64) ∨ (vsize n = 2 ∧ n < 16384) ∨ (vsize n = 4 ∧ n < 1073741824) ∨ vsize n = 8 := by
    unfold vsize
    split
    · exact .inl ⟨rfl, by assumption⟩
    · split
      · exact .inr (.inl ⟨rfl, by assumption⟩)
      · split
        · exact .inr (.inr (.inl ⟨rfl, by assumption⟩))
        · exact .inr (.inr (.inr rfl))
  have hm : max (vsize n) s = 1 ∧ n < 64 ∨ max (vsize n) s = 2 ∧ n < 16384 ∨ max (vsize n) s = 4 ∧ n < 1073741824 ∨ max (vsize n) s = 8 := by omega
  rcases hm with ⟨h, h'⟩ | ⟨h, h'⟩ | ⟨h, h'⟩ | h
  · exact ⟨1, 64, 0, by simp, h', by omega⟩
  · exact ⟨2, 16384, 1, by simp, h', by omega⟩
  · exact ⟨4, 1073741824, 2, by simp, h', by omega⟩
  · exact ⟨8, 4611686018427387904, 3, by simp, hn, by omega⟩
theorem own_lit3W (w : World) (x y z : Int) {base : Nat} (hb : base ≤ w.heap.size) : Own (w.alloc (.cells #[.int .u8 x, .int .u8 y, .int .u8 z] 5)) base (some ⟨w.heap.size, 0, none⟩) 3 [x, y, z] :=
  Own.new (l := [x, y, z]) (Blk.new w _ _) hb (by simp [maxLen])
set_option maxRecDepth 100000 in
set_option maxHeartbeats 3200000 in
theorem loose15_walk (n sz : Int) (A : Option Addr) (c : Nat) (l : List Int) (w : World) (ht : Tab w) (w0 : (Lit.int .u64 n).wf = true) (w1 : (Lit.int .u8 sz).wf = true)
    (hr : Rd w A l) (hb : Bytes l) (hc : l.length ≤ c) (hm : c ≤ 9223372036854775807) (hn : A = none → c = 0) :
    Calls Tryd.prog 8 #[.int .u64 n, .int .u8 sz, .slice A l.length c] w fun r w' => r = .returned (.bool true) ∧ Below w.heap.size w w' := by
  have i0 := wf_u64 w0
  have i1 := wf_u8 w1
  obtain ⟨n1, e1⟩ : ∃ m, n % 4611686018427387904 = m := ⟨_, rfl⟩
  have y1 : 0 ≤ n1 ∧ n1 < 4611686018427387904 := by omega
  obtain ⟨m1, hm1⟩ : ∃ m : Int, m = (if sz % 4 = 0 then 1 else if sz % 4 = 1 then 2 else if sz % 4 = 2 then 4 else 8) := ⟨_, rfl⟩
  obtain ⟨k, b, t, S1, nb, hk⟩ := pick_sizeW n1 m1 y1.1 y1.2 (by omega)
  have hk8 : k ≤ 8 := by unfold IsSize at S1; omega
  have hk1 : 1 ≤ k := by unfold IsSize at S1; omega
  have CC := fun W (hb' : Below w.heap.size w W) => cut_any A c l 20 W (Rd.below hr hb') (by omega) hc (by omega) (by omega)
  obtain ⟨L, hL⟩ : ∃ L, L = l.take (20 : Int).toNat := ⟨_, rfl⟩
  have hLb : Bytes L := by rw [hL]; exact fun x hx => hb x (List.mem_of_mem_take hx)
  have hLl : L.length ≤ 20 := by rw [hL]; simp; omega
  rw [← hL] at CC
  have HCC := Lib.hid CC
  have HLB := Lib.hid hLb
  obtain ⟨E, hE⟩ : ∃ E, E = wenc n1 k := ⟨_, rfl⟩
  have hEl : E.length = k := by rw [hE, wenc_length _ _ hk1]
  have hEb : Bytes E := by rw [hE]; exact wenc_bytes S1 y1.1 nb
  obtain ⟨Q, hQ⟩ : ∃ Q, Q = E ++ L := ⟨_, rfl⟩
  have hQl : Q.length = k + L.length := by rw [hQ, List.length_append, hEl]
  have hQb : Bytes Q := by rw [hQ]; exact hEb.append hLb
  have RD := req_read n1 S1 y1.1 nb L Q (by rw [hQ, hE]) (by omega)
  obtain ⟨D, hD⟩ : ∃ D, D = [21, 0, (Q.length : Int)] ++ Q := ⟨_, rfl⟩
  have hDl : D.length ≤ 40 := by rw [hD]; simp; omega
  have hDb : Bytes D := by
    rw [hD]
    intro x hx
    simp at hx
    rcases hx with rfl | rfl | rfl | hx
    · omega
    · omega
    · omega
    · exact hQb x hx
  have HRD := Lib.hid RD
  have HE := Lib.hid hE
  have HQ := Lib.hid hQ
  have HD := Lib.hid hD
  have HDB := Lib.hid hDb
  have HS := Lib.hid (And.intro S1 nb)
  have CW := fun W => refWide_ok n1 k k b t W S1 y1.1 nb
  rw [← hE, hEl] at CW
  have HCW := Lib.hid CW
  have HM := Lib.hid hm1
  have HK := Lib.hid hk
  have HT := Lib.hid ht
  have z0 := y1.1
  obtain ⟨V, hV⟩ : ∃ V, vsize n1 = V := ⟨_, rfl⟩
  have CS := fun W => refSize_any n1 W z0
  rw [hV] at CS
  have HCS := Lib.hid CS
  have HKV := Lib.hid (show (k : Int) = max V m1 by rw [← hV]; exact hk)
  clear S1 nb hk CC hL hLb hE hEb hQ hQb RD hD hDb CW hm1 ht w0 w1 hr hb CS hV
  go_enter Tryd.func8, Tryd.ntmps8
  go_wp2_with fail
  refine (awake15_any _ HT.out).mono ?_
  rintro e wb ⟨rfl, bb⟩
  have BB := Lib.hid bb
  clear bb HT
  go_upto_region 4 with (fail)
  rw [e1]
  clear e1 i0
  go_cut [7, 8] (fun qv ev wx => ∃ A1 c1, qv = .slice A1 k c1 ∧ ev = .int .i64 0 ∧ Own wx w.heap.size A1 c1 E ∧ Below w.heap.size w wx)
  case first =>
    rcases (show sz % 4 = 0 ∨ sz % 4 = 1 ∨ sz % 4 = 2 ∨ sz % 4 = 3 by omega) with hq | hq | hq | hq
    · have hmq := HM.out
      have hkq := HKV.out
      simp only [hq] at hmq
      have Z1 : (if V < 1 then (1 : Int) else V) = (k : Int) := by rw [hkq, hmq]; simp; split <;> omega
      have Z2 : (if 1 < V then V else (1 : Int)) = (k : Int) := by rw [hkq, hmq]; simp; split <;> omega
      have Z3 : max V 1 = (k : Int) := by rw [hkq, hmq]; simp
      clear hmq hkq
      go_wp2_with fail
      refine (HCS.out _).mono ?_
      rintro e w1 ⟨rfl, rfl⟩
      go_wp2_with fail
      refine (HCW.out _).mono ?_
      rintro e w2 ⟨A1, c1, rfl, o1, b1⟩
      have OO := Lib.hid (Own.base_leW o1 BB.out.size)
      have BE := Lib.hid (BB.out.trans (b1.mono BB.out.size))
      clear o1 b1 Z1 Z2 Z3
      go_wp2_with fail
      go_meet
      exact ⟨A1, c1, rfl, rfl, OO.out, BE.out⟩
    · have hmq := HM.out
      have hkq := HKV.out
      simp only [hq] at hmq
      have Z1 : (if V < 2 then (2 : Int) else V) = (k : Int) := by rw [hkq, hmq]; simp; split <;> omega
      have Z2 : (if 2 < V then V else (2 : Int)) = (k : Int) := by rw [hkq, hmq]; simp; split <;> omega
      have Z3 : max V 2 = (k : Int) := by rw [hkq, hmq]; simp
      clear hmq hkq
      go_wp2_with fail
      refine (HCS.out _).mono ?_
      rintro e w1 ⟨rfl, rfl⟩
      go_wp2_with fail
      refine (HCW.out _).mono ?_
      rintro e w2 ⟨A1, c1, rfl, o1, b1⟩
      have OO := Lib.hid (Own.base_leW o1 BB.out.size)
      have BE := Lib.hid (BB.out.trans (b1.mono BB.out.size))
      clear o1 b1 Z1 Z2 Z3
      go_wp2_with fail
      go_meet
      exact ⟨A1, c1, rfl, rfl, OO.out, BE.out⟩
    · have hmq := HM.out
      have hkq := HKV.out
      simp only [hq] at hmq
      have Z1 : (if V < 4 then (4 : Int) else V) = (k : Int) := by rw [hkq, hmq]; simp; split <;> omega
      have Z2 : (if 4 < V then V else (4 : Int)) = (k : Int) := by rw [hkq, hmq]; simp; split <;> omega
      have Z3 : max V 4 = (k : Int) := by rw [hkq, hmq]; simp
      clear hmq hkq
      go_wp2_with fail
      refine (HCS.out _).mono ?_
      rintro e w1 ⟨rfl, rfl⟩
      go_wp2_with fail
      refine (HCW.out _).mono ?_
      rintro e w2 ⟨A1, c1, rfl, o1, b1⟩
      have OO := Lib.hid (Own.base_leW o1 BB.out.size)
      have BE := Lib.hid (BB.out.trans (b1.mono BB.out.size))
      clear o1 b1 Z1 Z2 Z3
      go_wp2_with fail
      go_meet
      exact ⟨A1, c1, rfl, rfl, OO.out, BE.out⟩
    · have hmq := HM.out
      have hkq := HKV.out
      simp only [hq] at hmq
      have Z1 : (if V < 8 then (8 : Int) else V) = (k : Int) := by rw [hkq, hmq]; simp; split <;> omega
      have Z2 : (if 8 < V then V else (8 : Int)) = (k : Int) := by rw [hkq, hmq]; simp; split <;> omega
      have Z3 : max V 8 = (k : Int) := by rw [hkq, hmq]; simp
      clear hmq hkq
      go_wp2_with fail
      refine (HCS.out _).mono ?_
      rintro e w1 ⟨rfl, rfl⟩
      go_wp2_with fail
      refine (HCW.out _).mono ?_
      rintro e w2 ⟨A1, c1, rfl, o1, b1⟩
      have OO := Lib.hid (Own.base_leW o1 BB.out.size)
      have BE := Lib.hid (BB.out.trans (b1.mono BB.out.size))
      clear o1 b1 Z1 Z2 Z3
      go_wp2_with fail
      go_meet
      exact ⟨A1, c1, rfl, rfl, OO.out, BE.out⟩
  case rest =>
    obtain ⟨A1, c1, rfl, rfl, o1, b1⟩ := hcut
    subst hEl
    have hQ28 : Q.length ≤ 28 := by omega
    clear hQl
    have O1 := Lib.hid o1
    have B1 := Lib.hid b1
    clear o1 b1 HCS HCW HKV HM BB
    go_wp2_with fail
    refine (HCC.out _ B1.out).mono ?_
    rintro e w2 ⟨A2, c2, rfl, o2, b2⟩
    have O2 := Lib.hid o2
    have O1b := Lib.hid (O1.out.below b2)
    have B2 := Lib.hid (B1.out.trans (b2.mono B1.out.size))
    clear o2 b2 O1 B1 HCC
    have hw8 : IntKind.u8.wrap (Q.length : Int) = (Q.length : Int) := by rw [IntKind.wrap_u8]; omega
    go_upto_region 9 with (at_builtin; go_must (refine wpList_appW rfl (.tmp 31) (.tmp 32) rfl w.heap.size (l := E) (news := L) (d := c2) Q HQ.out rfl rfl O1b.out (Rd.of_own O2.out) (by omega) B2.out.size ?_); intro A5 c5 w5 o5 g5 b5)
    have O5 := Lib.hid o5
    have B5 := Lib.hid (B2.out.trans b5)
    clear o5 g5 b5 O1b O2 B2
    go_wp2_with (at_builtin; go_must (refine wpList_appW rfl (.tmp 38) (.tmp 39) rfl w.heap.size (l := [21, 0, (Q.length : Int)]) (news := Q) D HD.out rfl rfl (own_lit3W w5 21 0 (Q.length : Int) B5.out.size) ((Rd.of_own O5.out).alloc _) (by simp; omega) (by have := B5.out.size; simp; omega) ?_); intro A6 c6 w6 o6 g6 b6)
    have hD6 := Rd.of_own o6
    have B6 := Lib.hid ((B5.out.alloc B5.out.size (.cells #[.int .u8 21, .int .u8 0, .int .u8 (Q.length : Int)] 5)).trans b6)
    have C7 := Lib.hid (Read_any A6 c6 D w6 (Sl.of_own o6) HDB.out (by omega))
    clear o6 g6 b6 hD6 B5
    refine C7.out.mono ?_
    rintro e w7 h7
    have B7 := Lib.hid (B6.out.trans (h7.bel.mono B6.out.size))
    by_cases hLe : L = []
    · have hre : readW D = .ok (reqM n1, []) := by rw [HD.out, HRD.out, if_pos hLe]
      obtain ⟨nA, nc, rA, rc, vA, vc, qA, qc, rfl, _, _, _, _⟩ := h7.ok _ _ hre
      have CSm := fun W => sameW_any (reqM n1) (reqM n1) nA nc rA rc vA vc none 0 none 0 none 0 W (Rd.nil _ _) (Rd.nil _ _) (RdI.nil _ _ _) (Rd.nil _ _) (Rd.nil _ _) (RdI.nil _ _ _) Bytes.nil Bytes.nil Bytes.nil Bytes.nil (Nat.zero_le _) (Nat.zero_le _)
      rw [(sameMB_iff (reqM n1) (reqM n1)).2 rfl] at CSm
      unfold mvC reqM at CSm ⊢
      simp only [List.length_nil] at CSm ⊢
      have HC := Lib.hid CSm
      have hL0 : L.length = 0 := by rw [hLe]; rfl
      rw [hL0]
      clear h7 C7 B6 CSm hre hL0 hLl
      go_wp2_with fail
      refine (HC.out _).mono ?_
      rintro e w9 ⟨rfl, b9⟩
      have B8 := B7.out.alloc B7.out.size (.cells #[.int .u64 21, .int .u64 0, .int .u64 0, .slice nA 0 nc, .int .u8 0, .int .u8 0, .int .u64 0, .int .u64 0, .int .u64 0, .int .u64 0, .bool false, .int .u64 0, .slice rA 0 rc, .int .u64 n1, .int .u64 0, .slice vA 0 vc] 31)
      have B9 := Lib.hid (B8.trans (b9.mono B8.size))
      clear b9 B8
      go_wp2_with fail
      go_ret
      exact ⟨rfl, B9.out⟩
    · have hre : readW D = .error 4 := by rw [HD.out, HRD.out, if_neg hLe]
      obtain rfl := h7.no 4 hre
      clear h7 C7 B6
      have hLp : 0 < L.length := List.length_pos_iff.2 hLe
      have hL1 : decide ((0 : Int) < (L.length : Int)) = true := by simp; omega
      have hL2 : decide ((L.length : Int) > 0) = true := by simp; omega
      unfold zeroM mvC mv0
      simp only [List.length_nil]
      go_wp2_with fail
      go_ret
      exact ⟨rfl, B7.out.alloc B7.out.size _⟩
end Go.Proofs.YtmicehfofmjcjaaDoor
