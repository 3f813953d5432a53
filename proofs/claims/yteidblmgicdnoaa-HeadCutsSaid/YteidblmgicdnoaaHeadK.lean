/-
  HeadShort.
-/
import Derived.Test.YteidblmgicdnoaaHeadJ
import Derived.Test.YteidblmgicdnoaaAppZ
namespace Go.Proofs.Yteidblmgicdnoaa
open Go.RowKit
set_option linter.unusedVariables false

theorem short_model (f : Int) (r : List Int) (hf : f = 67 ∨ f = 71) :
    (r.length < 8 → rdErr (f :: r) = 2) ∧ (8 ≤ r.length → r.length < 28 → rdErr (f :: r) = 4) ∧ (28 ≤ r.length → rdErr (f :: r) = 0 ∧ rdAt (f :: r) = 9 ∧ hdV (f :: r) 0 = (r.length : Int) - 8) := by
  have hb : byteV (f :: r) 0 = f := rfl
  have hlt : f < 128 := by omega
  have hfix : fixOk f = true := by rcases hf with rfl | rfl <;> rfl
  have hn : needE 0 (f :: r).length 1 = 0 := by rw [needE, if_neg (by simp)]
  have hE1 : hdE1 (f :: r) 0 = 0 := by rw [hdE1, hb, hfix, hn]; rfl
  have hP1 : hdP1 (f :: r) 0 = r := by rw [hdP1, tkL, if_pos ⟨rfl, by simp⟩]; rfl
  have hE : hdE (f :: r) 0 = needE 0 r.length 8 := by rw [hdE, hb, if_pos hlt, shE, hE1, hP1]
  have hP : hdP (f :: r) 0 = tkL r 0 8 := by rw [hdP, hb, if_pos hlt, shL, hE1, hP1]
  have hV : hdV (f :: r) 0 = ((leftV (tkL r 0 8) (needE 0 r.length 8)).length : Int) := by rw [hdV, hb, if_pos hlt, shN, shL, shE, hE1, hP1]
  refine ⟨fun h => ?_, fun h1 h2 => ?_, fun h => ?_⟩
  · have e : needE 0 r.length 8 = 2 := by rw [needE, if_pos ⟨rfl, h⟩]
    rw [rdErr, hE, e, mustE, if_neg (by omega)]
  · have e : needE 0 r.length 8 = 0 := by rw [needE, if_neg (by omega)]
    have t : tkL r 0 8 = r.drop 8 := by rw [tkL, if_pos ⟨rfl, h1⟩]
    rw [rdErr, hE, hV, e, t, leftV, if_pos rfl, mustE, if_pos ⟨rfl, by simp; omega⟩]
  · have e : needE 0 r.length 8 = 0 := by rw [needE, if_neg (by omega)]
    have t : tkL r 0 8 = r.drop 8 := by rw [tkL, if_pos ⟨rfl, by omega⟩]
    have v : hdV (f :: r) 0 = (r.length : Int) - 8 := by rw [hV, e, t, leftV, if_pos rfl]; simp; omega
    have er : rdErr (f :: r) = 0 := by rw [rdErr, hE, v, e, mustE, if_neg (by simp; omega)]
    refine ⟨er, ?_, v⟩
    rw [rdAt, rdLeft, er, hP, t, leftV, if_pos rfl]
    simp
    omega
theorem short_nil : rdErr [] = 2 := rfl
theorem short_q (q : List Int) (h : q = [] ∨ ∃ f r, q = f :: r ∧ (f = 67 ∨ f = 71)) :
    (q.length < 9 → rdErr q = 2) ∧ (9 ≤ q.length → q.length < 29 → rdErr q = 4) ∧ (29 ≤ q.length → rdErr q = 0 ∧ rdAt q = 9 ∧ hdV q 0 = (q.length : Int) - 9) := by
  rcases h with rfl | ⟨f, r, rfl, hf⟩
  · exact ⟨fun _ => short_nil, fun h => absurd h (by simp), fun h => absurd h (by simp)⟩
  · obtain ⟨h1, h2, h3⟩ := short_model f r hf
    have hl : (f :: r).length = r.length + 1 := rfl
    refine ⟨fun h => h1 (by omega), fun h h' => h2 (by omega) (by omega), fun h => ?_⟩
    obtain ⟨e1, e2, e3⟩ := h3 (by omega)
    exact ⟨e1, e2, by rw [e3, hl]; omega⟩
theorem take_q (f : Int) (r Z : List Int) (k : Nat) (hf : f = 67 ∨ f = 71) : (f :: r ++ Z).take k = [] ∨ ∃ g s, (f :: r ++ Z).take k = g :: s ∧ (g = 67 ∨ g = 71) := by
  cases k with
  | zero => exact .inl rfl
  | succ m => exact .inr ⟨f, (r ++ Z).take m, rfl, hf⟩
theorem shortB_bytes (ph : Bool) (a : List Int) (pn : Int) (ha : Bytes a) : Bytes (shortB ph a pn) := by
  intro x hx
  unfold shortB at hx
  rcases List.mem_cons.1 hx with rfl | hx
  · cases ph <;> decide
  · rcases List.mem_append.1 hx with hx | hx
    · exact ha x hx
    · exact be_bytes _ _ x hx

theorem u64_range {n : Int} (h : (Lit.int .u64 n).wf = true) : 0 ≤ n ∧ n < 18446744073709551616 := by
  simp [Lit.wf, IntKind.min, IntKind.max, IntKind.signed, IntKind.bits] at h; omega
theorem u8_range' {n : Int} (h : (Lit.int .u8 n).wf = true) : 0 ≤ n ∧ n < 256 := by
  simp [Lit.wf, IntKind.min, IntKind.max, IntKind.signed, IntKind.bits] at h; omega

theorem Sl.upto {w : World} {A : Option Addr} {c : Nat} {l : List Int} (h : Sl w A c l) {k : Nat} (hk : k ≤ l.length) : Sl w A c (l.take k) :=
  ⟨h.rd.upto hk, Nat.le_trans (by rw [List.length_take]; omega) h.le, h.max, h.nil⟩
theorem run_app60 (w : World) (ty : TypeId) {base c : Nat} {A : Option Addr} {l : List Int} (k : Nat) (Z : List Int) (hk : k = 60) (hZ : Z = List.replicate k 0) (z : Int) (hz : z = 60) (hown : Own w base A c l)
    (hlen : l.length = 13) (hbase : base ≤ w.heap.size) :
    ∃ A' c' w', (Builtin.append_ #[22, 3] ty #[.slice A l.length c, .int .i64 z]).run Try.prog w = .ok (.slice A' (l ++ Z).length c') w' ∧
      Own w' base A' c' (l ++ Z) ∧ w.grownBy w' (Value.slice A l.length c).ownBlock := by
  have hw : IntKind.i64.wrap (k : Int) = (k : Int) := by rw [hk]; decide
  have hzk : z = (k : Int) := by omega
  rw [hzk, hZ, List.length_append, List.length_replicate]
  exact run_app0 w ty k (by omega) hw hown (by omega) hbase
theorem mk60 : ∃ (k : Nat) (Z : List Int), k = 60 ∧ Z = List.replicate k 0 ∧ Z.length = 60 ∧ Bytes Z := by
  refine ⟨60, _, rfl, rfl, by rw [List.length_replicate], ?_⟩
  intro x hx
  rw [List.eq_of_mem_replicate hx]
  decide
theorem wpList_app60 {ops : Array Oper} {rest : List Oper} {o : Oper} {a : Act} {w : World} {Q : Exit → Act → World → Prop} (hgd : o.guard = none) (s x : Operand)
    (ho : o.op = .call { callee := .builtin .append, args := #[s, x], argTypes := #[22, 3] })
    (base : Nat) {c : Nat} {A : Option Addr} {l : List Int} (k : Nat) (Z : List Int) (hk : k = 60) (hZ : Z = List.replicate k 0) (hs : a.eval s = .slice A l.length c) (hx : a.eval x = .int .i64 60) (hown : Own w base A c l)
    (hlen : l.length = 13) (hbase : base ≤ w.heap.size)
    (h : ∀ A' c' w', Own w' base A' c' (l ++ Z) → Below base w w' → wpList Try.prog ops Q rest (a.put o.dst (.slice A' (l ++ Z).length c')) w') : wpList Try.prog ops Q (o :: rest) a w :=
  wpList_plain hgd fun K hK => by
    obtain ⟨A', c', w', hrun, h2, h3⟩ := run_app60 w o.type k Z hk hZ 60 rfl hown hlen hbase
    unfold Oper.wp execOp
    simp only [ho, resolve, invoke, builtin, Sem.run_bind, Sem.run_pure, Result.andThen_ok, List.map_toArray, List.map_cons, List.map_nil, hs, hx, hrun]
    exact hK _ _ (h A' c' w' h2 ((Below.refl _ _).grown h3 hbase hown.row_ge))

set_option maxRecDepth 8000 in
set_option maxHeartbeats 3200000 in
theorem short_walk (lg : Bool) (lv : Int) (ph : Bool) (A : Option Addr) (c : Nat) (a : List Int) (B : Option Addr) (d : Nat) (b : List Int) (pn n : Int) (w : World)
    (ha : Sl w A c a) (hab : Bytes a) (hb : Sl w B d b) (hbb : Bytes b) (wp : (Lit.int .u64 pn).wf = true) (wn : (Lit.int .u8 n).wf = true) :
    Calls Try.prog 7 #[HV lg lv ph A a c B b d, .int .u64 pn, .int .u8 n] w fun r w' => r = .returned (.bool true) ∧ Below w.heap.size w w' := by
  have hpn := u64_range wp
  have hn := u8_range' wn
  have AW := Lib.hid (fun W => awake4_any W)
  have CF := (fun W (h1 : Sl W A c a) (h2 : Sl W B d b) => Few_any lg lv ph A a c B b d W h1 h2)
  obtain ⟨a2, ha2⟩ : ∃ x, x = a.take 30 := ⟨_, rfl⟩
  obtain ⟨b2, hb2⟩ : ∃ x, x = b.take 30 := ⟨_, rfl⟩
  rw [← ha2, ← hb2] at CF
  have HAB := Lib.hid (show Bytes a2 by rw [ha2]; exact hab.take _)
  have HBB := Lib.hid (show Bytes b2 by rw [hb2]; exact hbb.take _)
  have CF' := Lib.hid CF
  have HA := Lib.hid ha
  have HB := Lib.hid hb
  unfold HV at CF' ⊢
  clear wp wn CF ha2 hb2 hab hbb ha hb
  go_enter Try.func7, Try.ntmps7
  go_wp2_with fail
  refine (AW.out _).mono ?_
  rintro e w1 ⟨rfl, rfl⟩
  go_wp2_with fail
  have ba : Below w.heap.size w (w.alloc (.cells #[.bool lg, .int .i64 lv, .bool ph, .slice A a.length c, .slice B b.length d] 27)) := (Below.refl _ _).alloc (Nat.le_refl _) _
  refine (CF'.out _ (HA.out.below ba) (HB.out.below ba)).mono ?_
  rintro e w2 ⟨A2, c2, B2, d2, rfl, o2, o2', b2x⟩
  have kb := (Blk.new w 27 #[.bool lg, .int .i64 lv, .bool ph, .slice A a.length c, .slice B b.length d]).below b2x (by simp)
  have f0 := kb.frozen 0
  have f1 := kb.frozen 1
  have f2 := kb.frozen 2
  have f3 := kb.frozen 3
  have f4 := kb.frozen 4
  have q0 := kb.cell 0
  have q1 := kb.cell 1
  have q2 := kb.cell 2
  have q3 := kb.cell 3
  have q4 := kb.cell 4
  have BL2 := Lib.hid (ba.trans (b2x.mono ba.size))
  have KB := Lib.hid kb
  have O2 := Lib.hid (o2.base_le ba.size)
  have O2' := Lib.hid (o2'.base_le ba.size)
  clear kb o2 o2' b2x ba CF'
  go_wp2_with fail
  have K3 := Lib.hid (set5_blk KB.out (.bool lg) (.int .i64 lv) (.bool ph) (.slice A2 a2.length c2) (.slice B2 b2.length d2))
  have B3 := Lib.hid (below_set5 BL2.out (Nat.le_refl _) (.bool lg) (.int .i64 lv) (.bool ph) (.slice A2 a2.length c2) (.slice B2 b2.length d2))
  have SA := Lib.hid (Sl.of_own (set5_own O2.out KB.out (by decide) (.bool lg) (.int .i64 lv) (.bool ph) (.slice A2 a2.length c2) (.slice B2 b2.length d2)))
  have SB := Lib.hid (Sl.of_own (set5_own O2'.out KB.out (by decide) (.bool lg) (.int .i64 lv) (.bool ph) (.slice A2 a2.length c2) (.slice B2 b2.length d2)))
  show Calls _ _ _ (set5 w2 w.heap.size (.bool lg) (.int .i64 lv) (.bool ph) (.slice A2 a2.length c2) (.slice B2 b2.length d2)) _
  generalize set5 w2 w.heap.size (.bool lg) (.int .i64 lv) (.bool ph) (.slice A2 a2.length c2) (.slice B2 b2.length d2) = w3 at K3 B3 SA SB ⊢
  clear f0 f1 f2 f3 f4 q0 q1 q2 q3 q4 KB BL2 O2 O2'
  cases hr : rightB lg lv ph a2 b2
  · have CB := refBytes_bad lg lv ph A2 a2 c2 B2 b2 d2 pn 16 w3 (by omega) hr
    unfold HV at CB
    have CB' := Lib.hid CB
    clear CB hr
    refine CB'.out.mono ?_
    rintro e w4 ⟨rfl, b4⟩
    have B4 := Lib.hid (B3.out.trans (b4.mono B3.out.size))
    clear b4
    go_wp2_with fail
    go_ret
    exact ⟨rfl, B4.out⟩
  · cases lg
    · have CB := refBytes_short lv ph A2 a2 c2 B2 b2 d2 pn 16 w3 (by omega) hpn SA.out hr
      have hal : a2.length = 8 := by
        unfold rightB at hr
        simp at hr
        omega
      unfold HV at CB
      have CB' := Lib.hid CB
      have HAL := Lib.hid hal
      clear CB hr hal
      obtain ⟨O, hO⟩ : ∃ O, O = shortB ph a2 pn := ⟨_, rfl⟩
      rw [← hO] at CB'
      have HO := Lib.hid hO
      have hOl : O.length = 13 := by rw [hO, shortB, List.length_cons, List.length_append, be_length, HAL.out]
      have HOL := Lib.hid hOl
      obtain ⟨k60, Z, hk60, hZ, hzl, hzb⟩ := mk60
      have HZL := Lib.hid hzl
      have HZB := Lib.hid hzb
      obtain ⟨kk, hkk⟩ : ∃ kk : Nat, (kk : Int) = n % 60 := ⟨(n % 60).toNat, by omega⟩
      have HKK := Lib.hid hkk
      have HK60 := Lib.hid hk60
      have HZR := Lib.hid hZ
      clear hO hOl hZ hkk hk60 hzl hzb
      refine CB'.out.mono ?_
      rintro e w4 ⟨A4, c4, rfl, o4, b4⟩
      have B4 := Lib.hid (B3.out.trans (b4.mono B3.out.size))
      have k4 := K3.out.below b4 K3.out.lt
      have q0 := k4.cell 0
      have O4 := Lib.hid o4
      have HW34 := Lib.hid b4.size
      clear b4 k4 o4
      go_wp2_with (at_builtin
                   go_must (refine wpList_app60 rfl (.tmp 33) (.const (.int .i64 60)) rfl w3.heap.size (A := A4) (c := c4) (l := O) k60 Z HK60.out HZR.out rfl rfl O4.out HOL.out HW34.out ?_)
                   intro A5 c5 w5 o5 b5
                   obtain ⟨X, hX⟩ : ∃ X, X = O ++ Z := ⟨_, rfl⟩
                   rw [← hX] at o5 ⊢
                   have HX := Lib.hid hX
                   have HXL := Lib.hid (show X.length = 73 by rw [hX, List.length_append, HOL.out, HZL.out])
                   have O5 := Lib.hid o5
                   have B5 := Lib.hid b5
                   have hxl : kk ≤ X.length := by have h1 := HXL.out; have h2 := HKK.out; omega
                   have hcl := (Sl.of_own o5).le
                   have s1 := slice_upto_is A5 c5 X.length kk .i64 (n % 60) HKK.out.symm hxl hcl
                   have SX := Lib.hid ((Sl.of_own o5).upto hxl)
                   have HTL := Lib.hid (show (X.take kk).length = kk by rw [List.length_take]; omega)
                   clear hX o5 b5 hxl hcl)
      obtain ⟨q, hq⟩ : ∃ q, q = X.take kk := ⟨_, rfl⟩
      have hql : q.length = kk := by rw [hq, HTL.out]
      have hqb : Bytes q := by
        rw [hq, HX.out, HO.out]
        intro x hx
        rcases List.mem_append.1 (List.mem_of_mem_take hx) with hx | hx
        · exact shortB_bytes ph a2 pn HAB.out x hx
        · exact HZB.out x hx
      have hqq : q = [] ∨ ∃ f r, q = f :: r ∧ (f = 67 ∨ f = 71) := by
        rw [hq, HX.out, HO.out]
        exact take_q _ _ Z kk (by cases ph <;> simp)
      obtain ⟨m1, m2, m3⟩ := short_q q hqq
      rw [hql] at m1 m2 m3
      have hk60 : kk < 60 := by have h2 := HKK.out; omega
      have SQ := Lib.hid (show Sl w5 A5 c5 q by rw [hq]; exact SX.out)
      have HBF := Lib.hid (show ∀ w', Below w5.heap.size w5 w' → Below w.heap.size w w' from fun w' hb => B4.out.trans ((B5.out.trans (hb.mono (Nat.le_trans HW34.out B5.out.size))).mono B3.out.size))
      have hkn := HKK.out
      by_cases h29 : 29 ≤ kk
      · obtain ⟨e1, e2, e3⟩ := m3 h29
        have CR := Read_yes A5 c5 q w5 SQ.out hqb (by rw [hql]; omega) e1
        rw [e2, e3, hql] at CR
        have CR' := Lib.hid CR
        have x1 : ¬ n % 60 < 9 := by omega
        have x2 : ¬ n % 60 < 29 := by omega
        have x3 : (9 + ((kk : Int) - 9)) = n % 60 := by omega
        rw [x3] at CR
        have CR' := Lib.hid CR
        clear CR m1 m2 m3 hq hql hqq hqb e1 e2 e3 x3 hkn h29 hk60
        refine CR'.out.mono ?_
        rintro e w6 ⟨A6, c6, A7, c7, rfl, o6, o7, b6⟩
        have B6 := Lib.hid (HBF.out _ b6)
        clear o6 o7 b6
        go_wp2_with fail
        go_ret
        exact ⟨rfl, B6.out.alloc B6.out.size _⟩
      · by_cases h9 : kk < 9
        · have e1 := m1 h9
          have CR := Read_no A5 c5 q w5 SQ.out hqb (by rw [hql]; omega) (by rw [e1]; decide)
          rw [hql, e1] at CR
          have CR' := Lib.hid CR
          have x1 : n % 60 < 9 := by omega
          clear CR m1 m2 m3 hq hql hqq hqb e1 hkn h29 h9 hk60
          refine CR'.out.mono ?_
          rintro e w6 ⟨rfl, b6⟩
          have B6 := Lib.hid (HBF.out _ b6)
          clear b6
          go_wp2_with fail
          go_ret
          exact ⟨rfl, B6.out.alloc B6.out.size _⟩
        · have e1 := m2 (by omega) (by omega)
          have CR := Read_no A5 c5 q w5 SQ.out hqb (by rw [hql]; omega) (by rw [e1]; decide)
          rw [hql, e1] at CR
          have CR' := Lib.hid CR
          have x1 : ¬ n % 60 < 9 := by omega
          have x2 : n % 60 < 29 := by omega
          clear CR m1 m2 m3 hq hql hqq hqb e1 hkn h29 h9 hk60
          refine CR'.out.mono ?_
          rintro e w6 ⟨rfl, b6⟩
          have B6 := Lib.hid (HBF.out _ b6)
          clear b6
          go_wp2_with fail
          go_ret
          exact ⟨rfl, B6.out.alloc B6.out.size _⟩
    · have hph : ph = false := by
        unfold rightB at hr
        simp at hr
        exact hr.2
      subst hph
      have CB := refBytes_long lv A2 a2 c2 B2 b2 d2 pn 16 w3 (by omega) hpn SA.out SB.out hr
      unfold HV at CB
      have CB' := Lib.hid CB
      clear CB hr
      refine CB'.out.mono ?_
      rintro e w4 ⟨A4, c4, rfl, o4, b4⟩
      have B4 := Lib.hid (B3.out.trans (b4.mono B3.out.size))
      have k4 := K3.out.below b4 K3.out.lt
      have q0 := k4.cell 0
      clear b4 k4 o4
      go_wp2_with fail
      go_ret
      exact ⟨rfl, B4.out⟩
end Go.Proofs.Yteidblmgicdnoaa
