/-
  HeadCuts.
-/
import Derived.Test.YteidblmgicdnoaaHeadL
namespace Go.Proofs.Yteidblmgicdnoaa
open Go.RowKit
set_option linter.unusedVariables false

theorem u16_range' {n : Int} (h : (Lit.int .u16 n).wf = true) : 0 ≤ n ∧ n < 65536 := by
  simp [Lit.wf, IntKind.min, IntKind.max, IntKind.signed, IntKind.bits] at h; omega
theorem mk16 : ∃ (k : Nat) (Z : List Int), k = 16 ∧ Z = List.replicate k 0 ∧ Z.length = 16 ∧ Bytes Z := by
  refine ⟨16, _, rfl, rfl, by rw [List.length_replicate], ?_⟩
  intro x hx
  rw [List.eq_of_mem_replicate hx]
  decide
theorem longB_bytes (lv : Int) (a b : List Int) (pn : Int) (hlv : lv = 0 ∨ lv = 1) (hal : a.length ≤ 20) (hbl : b.length ≤ 20) (ha : Bytes a) (hb : Bytes b) : Bytes (longB lv a b pn 16) := by
  have w : wenc (4 + 16) 2 = [64, 20] := by decide
  unfold longB
  rw [w]
  refine Bytes.append (Bytes.append (Bytes.append (Bytes.append (Bytes.append (Bytes.append ?_ ha) ?_) hb) ?_) ?_) (be_bytes _ _)
  · intro x hx
    simp at hx
    rcases hx with rfl | rfl | rfl | rfl <;> omega
  · intro x hx
    simp at hx
    omega
  · split
    · intro x hx; simp at hx; omega
    · exact Bytes.nil
  · intro x hx
    simp at hx
    omega
theorem wpList_app16 {ops : Array Oper} {rest : List Oper} {o : Oper} {a : Act} {w : World} {Q : Exit → Act → World → Prop} (hgd : o.guard = none) (s x : Operand)
    (ho : o.op = .call { callee := .builtin .append, args := #[s, x], argTypes := #[22, 3] })
    (base : Nat) {c : Nat} {A : Option Addr} {l : List Int} (k : Nat) (Z : List Int) (hk : k = 16) (hZ : Z = List.replicate k 0) (hs : a.eval s = .slice A l.length c) (hx : a.eval x = .int .i64 16) (hown : Own w base A c l)
    (hlen : l.length ≤ 80) (hbase : base ≤ w.heap.size)
    (h : ∀ A' c' w', Own w' base A' c' (l ++ Z) → Below base w w' → wpList Try.prog ops Q rest (a.put o.dst (.slice A' (l ++ Z).length c')) w') : wpList Try.prog ops Q (o :: rest) a w :=
  wpList_plain hgd fun K hK => by
    have hw : IntKind.i64.wrap (k : Int) = (k : Int) := by rw [hk]; decide
    obtain ⟨A', c', w', hrun, h2, h3⟩ := run_app0 w o.type k (by omega) hw hown (by omega) hbase
    rw [← hZ] at h2
    have hzl : Z.length = k := by rw [hZ, List.length_replicate]
    rw [show (16 : Int) = (k : Int) by omega] at hx
    rw [show l.length + k = (l ++ Z).length by rw [List.length_append, hzl]] at hrun
    unfold Oper.wp execOp
    simp only [ho, resolve, invoke, builtin, Sem.run_bind, Sem.run_pure, Result.andThen_ok, List.map_toArray, List.map_cons, List.map_nil, hs, hx, hrun]
    exact hK _ _ (h A' c' w' h2 ((Below.refl _ _).grown h3 hbase hown.row_ge))

set_option maxRecDepth 8000 in
set_option maxHeartbeats 3200000 in
theorem cuts_walk (lg : Bool) (lv : Int) (ph : Bool) (A : Option Addr) (c : Nat) (a : List Int) (B : Option Addr) (d : Nat) (b : List Int) (pn n : Int) (w : World)
    (ha : Sl w A c a) (hab : Bytes a) (hb : Sl w B d b) (hbb : Bytes b) (wp : (Lit.int .u64 pn).wf = true) (wn : (Lit.int .u16 n).wf = true) :
    Calls Try.prog 5 #[HV lg lv ph A a c B b d, .int .u64 pn, .int .u16 n] w fun r w' => r = .returned (.bool true) ∧ Below w.heap.size w w' := by
  have hpn := u64_range wp
  have hn := u16_range' wn
  have AW := Lib.hid (fun W => awake4_any W)
  have CF := (fun W (h1 : Sl W A c a) (h2 : Sl W B d b) => Few_any lg lv ph A a c B b d W h1 h2)
  obtain ⟨a2, ha2⟩ : ∃ x, x = a.take 30 := ⟨_, rfl⟩
  obtain ⟨b2, hb2⟩ : ∃ x, x = b.take 30 := ⟨_, rfl⟩
  rw [← ha2, ← hb2] at CF
  have HAB := Lib.hid (show Bytes a2 by rw [ha2]; exact hab.take _)
  have HBB := Lib.hid (show Bytes b2 by rw [hb2]; exact hbb.take _)
  have CF' := Lib.hid CF
  have HA := Lib.hid ha
  have HB := Lib.hid hb
  unfold HV at CF' ⊢
  clear wp wn CF ha2 hb2 hab hbb ha hb
  go_enter Try.func5, Try.ntmps5
  go_wp2_with fail
  refine (AW.out _).mono ?_
  rintro e w1 ⟨rfl, rfl⟩
  go_wp2_with fail
  have ba : Below w.heap.size w (w.alloc (.cells #[.bool lg, .int .i64 lv, .bool ph, .slice A a.length c, .slice B b.length d] 27)) := (Below.refl _ _).alloc (Nat.le_refl _) _
  refine (CF'.out _ (HA.out.below ba) (HB.out.below ba)).mono ?_
  rintro e w2 ⟨A2, c2, B2, d2, rfl, o2, o2', b2x⟩
  have kb := (Blk.new w 27 #[.bool lg, .int .i64 lv, .bool ph, .slice A a.length c, .slice B b.length d]).below b2x (by simp)
  have f0 := kb.frozen 0
  have f1 := kb.frozen 1
  have f2 := kb.frozen 2
  have f3 := kb.frozen 3
  have f4 := kb.frozen 4
  have q0 := kb.cell 0
  have q1 := kb.cell 1
  have q2 := kb.cell 2
  have q3 := kb.cell 3
  have q4 := kb.cell 4
  have BL2 := Lib.hid (ba.trans (b2x.mono ba.size))
  have KB := Lib.hid kb
  have O2 := Lib.hid (o2.base_le ba.size)
  have O2' := Lib.hid (o2'.base_le ba.size)
  clear kb o2 o2' b2x ba CF'
  go_wp2_with fail
  have K3 := Lib.hid (set5_blk KB.out (.bool lg) (.int .i64 lv) (.bool ph) (.slice A2 a2.length c2) (.slice B2 b2.length d2))
  have B3 := Lib.hid (below_set5 BL2.out (Nat.le_refl _) (.bool lg) (.int .i64 lv) (.bool ph) (.slice A2 a2.length c2) (.slice B2 b2.length d2))
  have SA := Lib.hid (Sl.of_own (set5_own O2.out KB.out (by decide) (.bool lg) (.int .i64 lv) (.bool ph) (.slice A2 a2.length c2) (.slice B2 b2.length d2)))
  have SB := Lib.hid (Sl.of_own (set5_own O2'.out KB.out (by decide) (.bool lg) (.int .i64 lv) (.bool ph) (.slice A2 a2.length c2) (.slice B2 b2.length d2)))
  show Calls _ _ _ (set5 w2 w.heap.size (.bool lg) (.int .i64 lv) (.bool ph) (.slice A2 a2.length c2) (.slice B2 b2.length d2)) _
  generalize set5 w2 w.heap.size (.bool lg) (.int .i64 lv) (.bool ph) (.slice A2 a2.length c2) (.slice B2 b2.length d2) = w3 at K3 B3 SA SB ⊢
  clear f0 f1 f2 f3 f4 q0 q1 q2 q3 q4 KB BL2 O2 O2'
  cases hr : rightB lg lv ph a2 b2
  · have CB := refBytes_bad lg lv ph A2 a2 c2 B2 b2 d2 pn 16 w3 (by omega) hr
    unfold HV at CB
    have CB' := Lib.hid CB
    clear CB hr
    refine CB'.out.mono ?_
    rintro e w4 ⟨rfl, b4⟩
    have B4 := Lib.hid (B3.out.trans (b4.mono B3.out.size))
    clear b4
    go_wp2_with fail
    go_ret
    exact ⟨rfl, B4.out⟩
  · cases lg
    · have CB := refBytes_short lv ph A2 a2 c2 B2 b2 d2 pn 16 w3 (by omega) hpn SA.out hr
      unfold HV at CB
      have CB' := Lib.hid CB
      clear CB hr
      refine CB'.out.mono ?_
      rintro e w4 ⟨A4, c4, rfl, o4, b4⟩
      have B4 := Lib.hid (B3.out.trans (b4.mono B3.out.size))
      have k4 := K3.out.below b4 K3.out.lt
      have q0 := k4.cell 0
      clear b4 k4 o4
      go_wp2_with fail
      go_ret
      exact ⟨rfl, B4.out⟩
    · have hrr : ph = false ∧ (lv = 0 ∨ lv = 1) ∧ a2.length ≤ 20 ∧ b2.length ≤ 20 := by
        unfold rightB at hr
        simp at hr
        exact ⟨hr.2, by omega, by omega, by omega⟩
      obtain ⟨hph, hlv, hal, hbl⟩ := hrr
      subst hph
      have CB := refBytes_long lv A2 a2 c2 B2 b2 d2 pn 16 w3 (by omega) hpn SA.out SB.out hr
      unfold HV at CB
      have HLV := Lib.hid hlv
      have HAL := Lib.hid hal
      have HBL := Lib.hid hbl
      obtain ⟨O, hO⟩ : ∃ O, O = longB lv a2 b2 pn 16 := ⟨_, rfl⟩
      rw [← hO] at CB
      have CB' := Lib.hid CB
      have HO := Lib.hid hO
      have hOl : 0 < O.length ∧ O.length ≤ 80 := by
        rw [hO]
        refine ⟨by simp [longB], ?_⟩
        simp only [longB, List.length_append, be_length, wenc_length _ _ (show 1 ≤ 2 by omega)]
        have : ((if lv = 0 then [0] else []) : List Int).length ≤ 1 := by split <;> simp
        simp
        omega
      have HOL := Lib.hid hOl
      have hOB : Bytes O := by rw [hO]; exact longB_bytes lv a2 b2 pn hlv hal hbl HAB.out HBB.out
      have HOB := Lib.hid hOB
      obtain ⟨k16, Z, hk16, hZ, hzl, hzb⟩ := mk16
      have HZL := Lib.hid hzl
      have HZB := Lib.hid hzb
      have HK16 := Lib.hid hk16
      have HZR := Lib.hid hZ
      clear CB hr hlv hal hbl hO hOl hOB hk16 hZ hzl hzb
      refine CB'.out.mono ?_
      rintro e w4 ⟨A4, c4, rfl, o4, b4⟩
      have B4 := Lib.hid (B3.out.trans (b4.mono B3.out.size))
      have k4 := K3.out.below b4 K3.out.lt
      have q0 := k4.cell 0
      have O4 := Lib.hid o4
      have HW34 := Lib.hid b4.size
      clear b4 k4 o4
      go_wp2_with (at_builtin
                   go_must (refine wpList_app16 rfl _ _ rfl w3.heap.size (A := A4) (c := c4) (l := O) k16 Z HK16.out HZR.out rfl rfl O4.out HOL.out.2 HW34.out ?_)
                   intro A5 c5 w5 o5 b5
                   obtain ⟨X, hX⟩ : ∃ X, X = O ++ Z := ⟨_, rfl⟩
                   rw [← hX] at o5 ⊢
                   have HX := Lib.hid hX
                   have HXL := Lib.hid (show X.length = O.length + 16 by rw [hX, List.length_append, HZL.out])
                   have O5 := Lib.hid o5
                   have B5 := Lib.hid b5
                   have HXM := Lib.hid (show 0 < X.length ∧ X.length ≤ 100 by have h1 := HOL.out; have h2 := HXL.out; omega)
                   obtain ⟨N, hN⟩ : ∃ N, N = X.length := ⟨_, rfl⟩
                   have HN := Lib.hid hN
                   rw [← hN]
                   have n1 : ¬ (N : Int) = 0 := by have h1 := HXM.out; omega
                   have n2 : (0 : Int) < (N : Int) := by have h1 := HXM.out; omega
                   obtain ⟨kk, hkk⟩ : ∃ kk : Nat, (kk : Int) = n % (N : Int) := ⟨(n % (N : Int)).toNat, by have := Int.emod_nonneg n n1; omega⟩
                   have hkN : kk < N := by have := Int.emod_lt_of_pos n n2; omega
                   have HKK := Lib.hid hkk
                   have HKN := Lib.hid hkN
                   have hxl : kk ≤ N := by omega
                   have hcl : N ≤ c5 := by rw [hN]; exact (Sl.of_own o5).le
                   have s1 := slice_upto_is A5 c5 N kk .i64 (n % (N : Int)) hkk.symm hxl hcl
                   have SX := Lib.hid ((Sl.of_own o5).upto (show kk ≤ X.length by omega))
                   have HTL := Lib.hid (show (X.take kk).length = kk by rw [List.length_take]; omega)
                   clear hX o5 b5 hxl hcl hN hkk hkN)
      obtain ⟨q, hq⟩ : ∃ q, q = X.take kk := ⟨_, rfl⟩
      have hql : q.length = kk := by rw [hq, HTL.out]
      have hqb : Bytes q := by
        rw [hq, HX.out]
        exact (Bytes.append HOB.out HZB.out).take _
      have e1 : rdErr q = 2 := by
        rw [hq, HX.out, HO.out]
        refine longB_cut lv a2 b2 pn Z kk HLV.out HAL.out HBL.out HZL.out ?_
        rw [← HO.out, ← HX.out, ← HN.out]
        exact HKN.out
      have hk100 : kk ≤ 100 := by have h1 := HKN.out; have h2 := HN.out; have h3 := HXM.out; omega
      have SQ := Lib.hid (show Sl w5 A5 c5 q by rw [hq]; exact SX.out)
      have HBF := Lib.hid (show ∀ w', Below w5.heap.size w5 w' → Below w.heap.size w w' from fun w' hb => B4.out.trans ((B5.out.trans (hb.mono (Nat.le_trans HW34.out B5.out.size))).mono B3.out.size))
      have CR := Read_no A5 c5 q w5 SQ.out hqb (by rw [hql]; omega) (by rw [e1]; decide)
      rw [hql, e1] at CR
      have CR' := Lib.hid CR
      clear CR hq hql hqb e1 hk100
      refine CR'.out.mono ?_
      rintro e w6 ⟨rfl, b6⟩
      have B6 := Lib.hid (HBF.out _ b6)
      clear b6
      go_wp2_with fail
      go_ret
      exact ⟨rfl, B6.out.alloc B6.out.size _⟩
end Go.Proofs.Yteidblmgicdnoaa
