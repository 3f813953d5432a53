/-
  head.Bytes.
-/
import Derived.Test.YtomapklkbfjafaaDoorHeadY
namespace Go.Proofs.YtomapklkbfjafaaDoor
open Go.RowKit
set_option linter.unusedVariables false
set_option linter.unusedSimpArgs false

theorem Bytes_arg (lg : Bool) (lv : Int) (ph : Bool) (A : Option Addr) (a : List Int) (c : Nat) (B : Option Addr) (b : List Int) (d : Nat) (pn z L : Int) (w : World) (h : z < 1 ∨ (1 ≤ z ∧ 4 < z) ∨ (1 ≤ z ∧ z ≤ 4 ∧ L < 0)) :
    Calls Tryd.prog 6 #[HV lg lv ph A a c B b d, .int .u64 pn, .int .i64 z, .int .i64 L] w fun r w' => r = .returned (.tuple #[.slice none 0 0, .int .i64 1]) ∧ Below w.heap.size w w' := by
  unfold HV
  rcases h with h1 | ⟨h1, h2⟩ | ⟨h1, h2, h3⟩
  · go_enter Tryd.func6, Tryd.ntmps6
    go_wp2_with fail
    go_ret2
    exact ⟨rfl, (Below.refl _ _).alloc (Nat.le_refl _) _⟩
  · have q1 : decide (z < 1) = false := by simp; omega
    have q2 : decide (4 < z) = true := by simp; omega
    go_enter Tryd.func6, Tryd.ntmps6
    go_wp2_with fail
    go_ret2
    exact ⟨rfl, (Below.refl _ _).alloc (Nat.le_refl _) _⟩
  · have q1 : decide (z < 1) = false := by simp; omega
    have q2 : decide (4 < z) = false := by simp; omega
    have q3 : decide (L < 0) = true := by simp; omega
    go_enter Tryd.func6, Tryd.ntmps6
    go_wp2_with fail
    go_ret2
    exact ⟨rfl, (Below.refl _ _).alloc (Nat.le_refl _) _⟩
theorem Bytes_far (lv : Int) (ph : Bool) (A : Option Addr) (a : List Int) (c : Nat) (B : Option Addr) (b : List Int) (d : Nat) (pn z L : Int) (w : World) (hz : 1 ≤ z) (hz4 : z ≤ 4) (hL : 0 ≤ L) (h : 16383 - z < L) :
    Calls Tryd.prog 6 #[HV true lv ph A a c B b d, .int .u64 pn, .int .i64 z, .int .i64 L] w fun r w' => r = .returned (.tuple #[.slice none 0 0, .int .i64 3]) ∧ Below w.heap.size w w' := by
  unfold HV
  have q1 : decide (z < 1) = false := by simp; omega
  have q2 : decide (4 < z) = false := by simp; omega
  have q3 : decide (L < 0) = false := by simp; omega
  have q4 : decide (16383 - z < L) = true := by simp; omega
  go_enter Tryd.func6, Tryd.ntmps6
  go_wp2_with fail
  go_ret2
  exact ⟨rfl, (Below.refl _ _).alloc (Nat.le_refl _) _⟩
theorem Bytes_bad (lg : Bool) (lv : Int) (ph : Bool) (A : Option Addr) (a : List Int) (c : Nat) (B : Option Addr) (b : List Int) (d : Nat) (pn z L : Int) (w : World) (hz : 1 ≤ z) (hz4 : z ≤ 4) (hL : 0 ≤ L) (h : lg = true → L ≤ 16383 - z) (hr : rightB lg lv ph a b = false) :
    Calls Tryd.prog 6 #[HV lg lv ph A a c B b d, .int .u64 pn, .int .i64 z, .int .i64 L] w fun r w' => r = .returned (.tuple #[.slice none 0 0, .int .i64 4]) ∧ Below w.heap.size w w' := by
  have CV := (fun W => valid_any lg lv ph A a c B b d W)
  rw [hr] at CV
  unfold HV at CV ⊢
  have CV' := Lib.hid CV
  have q1 : decide (z < 1) = false := by simp; omega
  have q2 : decide (4 < z) = false := by simp; omega
  have q3 : decide (L < 0) = false := by simp; omega
  clear CV hr
  cases lg
  case' true => have q4 : decide (16383 - z < L) = false := by have := h rfl; simp; omega
  all_goals
    clear h
    go_enter Tryd.func6, Tryd.ntmps6
    go_wp2_with fail
    refine (CV'.out _).mono ?_
    rintro r w1 ⟨rfl, b1⟩
    have B1 := Lib.hid (below_al b1)
    clear b1
    go_wp2_with fail
    go_ret2
    exact ⟨rfl, B1.out⟩
set_option maxHeartbeats 1600000 in
theorem Bytes_ok (lg : Bool) (lv : Int) (ph : Bool) (A : Option Addr) (a : List Int) (c : Nat) (B : Option Addr) (b : List Int) (d : Nat) (pn L : Int) (s : Nat) (w : World) (hs1 : 1 ≤ s) (hs4 : s ≤ 4) (hL : 0 ≤ L) (h : lg = true → L ≤ 16383 - s) (hr : rightB lg lv ph a b = true)
    (ha : Sl w A c a) (hb : Sl w B d b) (hpn : 0 ≤ pn ∧ pn < 18446744073709551616) (ht : Tab w) (O : List Int) (hO : O = if lg then longS s lv a b pn L else shortS s ph a pn) :
    Calls Tryd.prog 6 #[HV lg lv ph A a c B b d, .int .u64 pn, .int .i64 (s : Int), .int .i64 L] w fun r w' => ∃ A' c', r = .returned (.tuple #[.slice A' O.length c', .int .i64 0]) ∧ Own w' w.heap.size A' c' O ∧ Below w.heap.size w w' := by
  have CV := (fun W => valid_any lg lv ph A a c B b d W)
  have CF := (fun W => firstByte_any lg lv ph A a c B b d (s : Int) W (by omega) hr)
  rw [hr] at CV
  have HR := Lib.hid hr
  have hal : a.length ≤ 20 ∧ b.length ≤ 20 ∧ (lg = true → ph = false ∧ (lv = 0 ∨ lv = 1)) := by
    unfold rightB at hr
    cases lg
    · simp at hr
      exact ⟨by omega, by simp [hr.2], fun h => by cases h⟩
    · simp at hr
      exact ⟨by omega, by omega, fun _ => ⟨hr.2, by omega⟩⟩
  obtain ⟨hal1, hal2, hal3⟩ := hal
  have HO := Lib.hid hO
  have q1 : decide ((s : Int) < 1) = false := by simp; omega
  have q2 : decide (4 < (s : Int)) = false := by simp; omega
  have q3 : decide (L < 0) = false := by simp; omega
  obtain ⟨F, hF⟩ : ∃ F, F = fB lg lv ph (s : Int) := ⟨_, rfl⟩
  rw [← hF] at CF
  have HF := Lib.hid hF
  have SA := Lib.hid ha
  have SB := Lib.hid hb
  have HT := Lib.hid ht
  have HPN := Lib.hid hpn
  have hg := ht.1
  unfold HV at CV CF ⊢
  have CV' := Lib.hid CV
  have CF' := Lib.hid CF
  have HG := Lib.hid hg
  clear CV CF hO hF ha hb ht hpn hr hg
  cases lg
  · clear h hal3
    go_enter Tryd.func6, Tryd.ntmps6
    go_wp2_with fail
    refine (CV'.out _).mono ?_
    rintro r w1 ⟨rfl, b1⟩
    have k1 := (Blk.new w 24 #[.bool false, .int .i64 lv, .bool ph, .slice A a.length c, .slice B b.length d]).below b1 (by simp)
    have B1 := Lib.hid (below_al b1)
    have K1 := Lib.hid k1
    have q0 := k1.cell 0
    have r1 := k1.cell 1
    have r2 := k1.cell 2
    have r3 := k1.cell 3
    have r4 := k1.cell 4
    clear b1 k1
    go_wp2_with fail
    refine (CF'.out _).mono ?_
    rintro r w2 ⟨rfl, b2⟩
    have k2 := K1.out.below b2 K1.out.lt
    have B2 := Lib.hid (B1.out.trans (b2.mono B1.out.size))
    have bl : Below w2.heap.size w2 (w2.alloc (.cells #[.int .u8 F] 5)) := (Below.refl _ _).alloc (Nat.le_refl _) _
    have O2 := Lib.hid (own_lit1 w2 F (Nat.le_refl _))
    have RA := Lib.hid ((SA.out.rd.below B2.out).below bl)
    have B3 := Lib.hid (B2.out.trans (bl.mono B2.out.size))
    have s0 := (k2.below bl k2.lt).cell 0
    have s3 := (k2.below bl k2.lt).cell 3
    have HZ := Lib.hid bl.size
    obtain ⟨X, hX⟩ : ∃ X, X = [F] ++ a := ⟨_, rfl⟩
    have hXl : X.length ≤ 21 := by rw [hX, List.length_append]; simp; omega
    have HX := Lib.hid hX
    clear b2 k2 bl q0 r1 r2 r3 r4 hX K1
    go_wp2_with (at_builtin
                 refine wpList_appX rfl (.tmp 44) (.tmp 46) rfl w2.heap.size (l := [F]) (news := a) X HX.out rfl rfl O2.out RA.out (by simp; omega) HZ.out ?_
                 intro A5 c5 w5 o5 g5 b5
                 have O5 := Lib.hid o5
                 have B5 := Lib.hid (B3.out.trans (b5.mono B2.out.size))
                 have H5 := Lib.hid (Nat.le_trans HZ.out b5.size)
                 clear o5 g5 b5)
    refine (appendNumber_any A5 c5 X pn s w2.heap.size w5 O5.out (by omega) H5.out HPN.out hs4).mono ?_
    rintro r w6 ⟨A6, c6, rfl, o6, b6⟩
    have hXO : X ++ be pn s = O := by
      rw [HX.out, HO.out, HF.out, shortS, fB]
      cases ph <;> rfl
    rw [hXO] at o6 ⊢
    have O6 := Lib.hid (o6.base_le B2.out.size)
    have B6 := Lib.hid (B5.out.trans (b6.mono B2.out.size))
    clear o6 b6 hXO
    go_wp2_with fail
    go_ret2
    exact ⟨_, _, rfl, O6.out, B6.out⟩
  · obtain ⟨rfl, hlv⟩ := hal3 rfl
    have hL2 := h rfl
    have q4 : decide (16383 - (s : Int) < L) = false := by simp; omega
    have HLV := Lib.hid hlv
    clear h hal3 hlv
    go_enter Tryd.func6, Tryd.ntmps6
    go_wp2_with fail
    refine (CV'.out _).mono ?_
    rintro r w1 ⟨rfl, b1⟩
    have k1 := (Blk.new w 24 #[.bool true, .int .i64 lv, .bool false, .slice A a.length c, .slice B b.length d]).below b1 (by simp)
    have B1 := Lib.hid (below_al b1)
    have K1 := Lib.hid k1
    have q0 := k1.cell 0
    have r1 := k1.cell 1
    have r2 := k1.cell 2
    have r3 := k1.cell 3
    have r4 := k1.cell 4
    clear b1 k1
    go_wp2_with fail
    refine (CF'.out _).mono ?_
    rintro r w2 ⟨rfl, b2⟩
    have k2 := K1.out.below b2 K1.out.lt
    have B2 := Lib.hid (B1.out.trans (b2.mono B1.out.size))
    have bl : Below w2.heap.size w2 (w2.alloc (.cells #[.int .u8 F] 5)) := (Below.refl _ _).alloc (Nat.le_refl _) _
    have O2 := own_lit1 w2 F (Nat.le_refl _)
    have B3 := Lib.hid (B2.out.trans (bl.mono B2.out.size))
    have sa : SlB (w2.alloc (.cells #[.int .u8 F] 5)) w2.heap.size A c a := by
      have := SA.out.below B2.out
      exact ⟨(Reads.below this.rd bl), this.le, this.max, this.nil⟩
    have sb : SlB (w2.alloc (.cells #[.int .u8 F] 5)) w2.heap.size B d b := by
      have := SB.out.below B2.out
      exact ⟨(Reads.below this.rd bl), this.le, this.max, this.nil⟩
    have CA := appendLong_any lv (some ⟨w2.heap.size, 0, none⟩) 1 [F] A c a B d b ((s : Int) + L) w2.heap.size (w2.alloc (.cells #[.int .u8 F] 5)) O2 (by simp) bl.size HLV.out hal1 hal2 sa sb (by omega) ((HT.out.below B2.out).below bl) (Nat.lt_of_lt_of_le HG.out B2.out.size)
    unfold HV at CA
    obtain ⟨X, hX⟩ : ∃ X, X = [F] ++ apL lv a b ((s : Int) + L) := ⟨_, rfl⟩
    rw [← hX] at CA
    have hXl : X.length ≤ 200 := by
      rw [hX, apL]
      simp only [List.length_append, wenc_length _ _ (show 1 ≤ 2 by omega)]
      have : ((if lv = 0 then [0] else []) : List Int).length ≤ 1 := by split <;> simp
      simp
      omega
    have HX := Lib.hid hX
    have CA' := Lib.hid CA
    have k3 := k2.below bl k2.lt
    have s0 := k3.cell 0
    have s1 := k3.cell 1
    have s2 := k3.cell 2
    have s3 := k3.cell 3
    have s4 := k3.cell 4
    have HZ := Lib.hid bl.size
    clear b2 k2 bl q0 r1 r2 r3 r4 hX K1 CA O2 sa sb k3
    go_wp2_with fail
    refine CA'.out.mono ?_
    rintro r w5 ⟨A5, c5, rfl, o5, b5⟩
    have O5 := Lib.hid o5
    have B5 := Lib.hid (B3.out.trans (b5.mono B2.out.size))
    have H5 := Lib.hid (Nat.le_trans HZ.out b5.size)
    clear o5 b5 CA'
    go_wp2_with fail
    refine (appendNumber_any A5 c5 X pn s w2.heap.size w5 O5.out (by omega) H5.out HPN.out hs4).mono ?_
    rintro r w6 ⟨A6, c6, rfl, o6, b6⟩
    have hXO : X ++ be pn s = O := by
      rw [HX.out, HO.out, HF.out, longS, fB, apL]
      simp
    rw [hXO] at o6 ⊢
    have O6 := Lib.hid (o6.base_le B2.out.size)
    have B6 := Lib.hid (B5.out.trans (b6.mono B2.out.size))
    clear o6 b6 hXO
    go_wp2_with fail
    go_ret2
    exact ⟨_, _, rfl, O6.out, B6.out⟩
theorem Bytes_u (lg : Bool) (lv : Int) (ph : Bool) (A : Option Addr) (a : List Int) (c : Nat) (B : Option Addr) (b : List Int) (d : Nat) (pn z L : Int) (w : World) (ha : Sl w A c a) (hb : Sl w B d b) (hpn : 0 ≤ pn ∧ pn < 18446744073709551616) (ht : Tab w) :
    Calls Tryd.prog 6 #[HV lg lv ph A a c B b d, .int .u64 pn, .int .i64 z, .int .i64 L] w fun r w' => ByQ lg lv ph a b pn z L w r w' := by
  rcases by_ways lg lv ph a b z L with ⟨h, hE⟩ | ⟨h1, h4, hL, ⟨hlg, hf, hE⟩ | ⟨hf, ⟨hr, hE⟩ | ⟨hr, hE⟩⟩⟩
  · exact (Bytes_arg lg lv ph A a c B b d pn z L w h).mono fun r w' h => byq_no hE (by decide) h.1 h.2
  · subst hlg
    exact (Bytes_far lv ph A a c B b d pn z L w h1 h4 hL hf).mono fun r w' h => byq_no hE (by decide) h.1 h.2
  · exact (Bytes_bad lg lv ph A a c B b d pn z L w h1 h4 hL hf hr).mono fun r w' h => byq_no hE (by decide) h.1 h.2
  · obtain ⟨s, rfl⟩ := Int.eq_ofNat_of_zero_le (show 0 ≤ z by omega)
    exact (Bytes_ok lg lv ph A a c B b d pn L s w (by omega) (by omega) hL hf hr ha hb hpn ht _ rfl).mono fun r w' h => byq_yes hE rfl h
end Go.Proofs.YtomapklkbfjafaaDoor
