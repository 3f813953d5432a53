/-
  Ack.
-/
import Derived.Test.YtefhbiocddgijaaLossF
namespace Go.Proofs.Ytefhbiocddgijaa
open Go.RowKit
set_option linter.unusedVariables false
set_option linter.unusedSimpArgs false

theorem topR_snoc (a : Int) (r : List (Int × Int)) (x : Int × Int) : topR a (r ++ [x]) = max (topR a r) x.2 := by simp [topR]
theorem led_ack {w : World} {base g : Nat} {A : Option Addr} {c : Nat} {l : LG} (h : Led w base g A c l) (z : Int) :
    Led ((w.setCell ⟨g, 2, none⟩ (.int .u64 z)).setCell ⟨g, 3, none⟩ (.bool true)) base g A c ⟨l.op, l.nx, z, true⟩ := by
  refine ⟨?_, ?_, h.le⟩
  · have := Blk.set_ (Blk.set_ h.blk 2 (.int .u64 z)) 3 (.bool true)
    simpa using this
  · exact OwnV.frm h.own (((Frm.refl w (fun b => b = g)).set (p := ⟨g, 2, none⟩) (.inr rfl) (.int .u64 z)).set (p := ⟨g, 3, none⟩) (.inr rfl) (.bool true)) (fun k hk e => h.ne k hk e)
theorem RdG.frm {w w' : World} {B : Option Addr} {r : List (Int × Int)} {S : Nat → Prop} (h : RdG w B r) (hf : Frm w w' S) (hs : ∀ a, B = some a → 0 < r.length → ¬ S a.block) : RdG w' B r := by
  refine ⟨h.1, fun hn => ?_⟩
  obtain ⟨ad, e, hb, hc⟩ := h.2 hn
  refine ⟨ad, e, Nat.lt_of_lt_of_le hb hf.size, fun j u hu => ?_⟩
  rw [← hc j u hu]
  exact World.cell?_of_block (by rw [block_of_add]; exact hf.blk _ hb (hs ad e hn))
theorem OwnP.base_le {w : World} {base base' : Nat} {A : Option Addr} {c : Nat} {l : List PK} (h : OwnP w base A c l) (hb : base' ≤ base) : OwnP w base' A c l := by
  obtain ⟨h1, h2⟩ := h
  refine ⟨h1, ?_⟩
  rcases h2 with h2 | ⟨g, cap, cur, hv, hg, r⟩
  · exact .inl h2
  · exact .inr ⟨g, cap, cur, hv, Nat.le_trans hb hg, r⟩
theorem LAck_nil (B : Option Addr) (n d : Nat) (w : World) : Calls Try.prog 6 #[.pointer none, .slice B n d] w fun r w' => r = .returned (.tuple #[.slice none 0 0, .int .i64 6]) ∧ w = w' := by
  go_enter Try.func6, Try.ntmps6
  go_wp2_with fail
  exact bodyPost_ret (results_tmp2 rfl _ _ _) rfl ⟨rfl, rfl⟩
/-- What Ack answers. -/
structure AckTo (w w' : World) (base g : Nat) (A : Option Addr) (l : LG) (r : List (Int × Int)) (A1 : Option Addr) (c1 : Nat) : Prop where
  own : OwnP w' w.heap.size A1 c1 (ackL l r)
  to : LTo0 w w' base g A (lAck l r)
theorem ack_bad {l : LG} {r : List (Int × Int)} (h : ackE l r ≠ 0) : ackL l r = [] ∧ lAck l r = l := by
  unfold ackL lAck
  rw [if_neg h, if_neg h]
  exact ⟨rfl, rfl⟩
theorem remove_nil (f : Nat) (cb : Array Value) (base g c : Nat) (l : LG) (w : World) (h : Led w base g none c l) :
    Calls Try.prog 25 #[.pointer (some ⟨g, 0, none⟩), .func (.func f) #[] cb] w fun e w' => e = .returned (.slice none 0 0) ∧ l.op = [] ∧ Led w' base g none 0 l ∧ w.grownBy w' (some g) := by
  have h0 : l.op = [] ∧ c = 0 := by
    rcases h.own.2 with ⟨h1, h2⟩ | ⟨g', cap, cur, hv, _⟩
    · injection h1 with _ _ e3
      exact ⟨List.eq_nil_of_length_eq_zero h2, e3⟩
    · injection hv with e1; cases e1
  obtain ⟨e1, rfl⟩ := h0
  have c0 := h.blk.cell 0
  have f0 := h.blk.frozen 0
  have z := h.lt
  rw [e1] at c0
  simp at c0
  have H := Lib.hid h
  have E1 := Lib.hid e1
  clear h e1
  go_enter Try.func25, Try.ntmps25
  go_wp2_with fail
  go_loopw [21, 5, 6] (fun i x y wr => i = .int .i64 0 ∧ x = .slice none 0 0 ∧ y = .slice none 0 0 ∧ wr = w) (fun _ _ _ _ => 0)
  case atStart => exact ⟨rfl, rfl, rfl, rfl⟩
  case round =>
    obtain ⟨rfl, rfl, rfl, rfl⟩ := hrel
    go_wp2_with fail
    go_ret
    refine ⟨rfl, E1.out, ⟨?_, ?_, H.out.le⟩, gb_set (gb_refl _ _) rfl _⟩
    · have := Blk.set_ H.out.blk 0 (.slice none 0 0)
      rw [E1.out]
      simpa using this
    · rw [E1.out]; exact OwnF.nil _ _
set_option maxRecDepth 100000 in
theorem LAck_any (base g : Nat) (A : Option Addr) (c : Nat) (l : LG) (B : Option Addr) (d : Nat) (r : List (Int × Int)) (w : World) (h : Led w base g A c l) (ok : LgOk l) (hr : RdG w B r) (hrg : ∀ a, B = some a → 0 < r.length → a.block ≠ g) (hro : ∀ x ∈ r, PairOk x) (hb : base ≤ w.heap.size) (hl : l.op.length ≤ 1000000) (hrl : r.length ≤ 8796093022207) :
    Calls Try.prog 6 #[.pointer (some ⟨g, 0, none⟩), .slice B r.length d] w fun e w' => ∃ A1 c1, e = .returned (.tuple #[.slice A1 (ackL l r).length c1, .int .i64 (ackE l r)]) ∧ AckTo w w' base g A l r A1 c1 := by
  have HC := Lib.hid (check_any base g A c l B d r w h hr (by omega))
  have z := h.lt
  have H := Lib.hid h
  have HR := Lib.hid hr
  by_cases hbad : ackE l r ≠ 0
  · obtain ⟨e1, e2⟩ := ack_bad hbad
    have E1 := Lib.hid e1
    have E2 := Lib.hid e2
    have hle : ackE l r = 1 ∨ ackE l r = 4 := by
      unfold ackE at hbad ⊢
      split
      · exact .inr rfl
      · split
        · exact .inl rfl
        · rename_i h1 h2; rw [if_neg h1, if_neg h2] at hbad; exact absurd rfl hbad
    generalize ackE l r = E at *
    clear h hr e1 e2
    go_enter Try.func6, Try.ntmps6
    go_wp2_with fail
    refine HC.out.mono ?_
    rintro e w1 ⟨rfl, b1⟩
    have hd : (E != 0) = true := by simpa using hbad
    go_wp2_with fail
    refine bodyPost_ret (results_tmp2 rfl _ _ _) rfl ⟨none, 0, by rw [E1.out]; rfl, ⟨by rw [E1.out]; exact OwnF.nil _ _, ⟨⟨A, c, by rw [E2.out]; exact H.out.below b1, fun _ h => h⟩, Frm.of_below b1⟩⟩⟩
  · have h0 : ackE l r = 0 := by simpa using hbad
    have E0 := Lib.hid h0
    have HC2 := HC.out
    rw [h0] at HC2
    have HC := Lib.hid HC2
    clear HC2 hbad h hr h0
    go_enter Try.func6, Try.ntmps6
    go_wp2_with fail
    refine HC.out.mono ?_
    rintro e w1 ⟨rfl, b1⟩
    have h1 := H.out.below b1
    go_wp2_with fail
    go_loopw [19] (fun i wr => ∃ k : Nat, k ≤ r.length ∧ i = .int .i64 k ∧ Led wr base g A c ⟨l.op, l.nx, topR l.ak (r.take k), l.hs || !(r.take k).isEmpty⟩ ∧ Frm w wr (fun b => b = g)) (fun i _ => r.length - (intOf i).toNat)
    case atStart => exact ⟨0, by omega, rfl, by simpa [topR] using h1, Frm.of_below b1⟩
    case round =>
      obtain ⟨k, hk, rfl, hL, hF⟩ := hrel
      clear h1 b1
      have hz := hF.size
      by_cases hlt : k < r.length
      · obtain ⟨b, off, x, rfl, hb1, hx, q0, q1⟩ := (HR.out.frm hF hrg).at_ hlt
        have hts := take_snoc hx
        have hne : (r.take (k + 1)).isEmpty = false := by rw [hts]; simp
        have htop : topR l.ak (r.take (k + 1)) = max (topR l.ak (r.take k)) x.2 := by rw [hts, topR_snoc]
        obtain ⟨fr, to⟩ := x
        simp only at q0 q1 htop
        generalize topR l.ak (r.take k) = M at *
        generalize (l.hs || !(r.take k).isEmpty) = Q at *
        obtain ⟨Z, hZ⟩ : ∃ Z, Z = max M to := ⟨_, rfl⟩
        have Z1 : (if to < M then M else to) = Z := by rw [hZ]; split <;> omega
        have Z2 : (if M < to then to else M) = Z := by rw [hZ]; split <;> omega
        have HT := Lib.hid (htop.trans hZ.symm)
        have HNE := Lib.hid hne
        obtain ⟨W1, hW1⟩ : ∃ W1, W1 = wr.alloc (.cells #[.int .u64 fr, .int .u64 to] 61) := ⟨_, rfl⟩
        have KB1 : Blk W1 wr.heap.size 61 #[.int .u64 fr, .int .u64 to] := by rw [hW1]; exact Blk.new wr _ _
        have L1 : Led W1 base g A c ⟨l.op, l.nx, M, Q⟩ := by rw [hW1]; exact hL.below ((Below.refl _ _).alloc (Nat.le_refl _) _)
        have F1 : Frm w W1 (fun b => b = g) := by rw [hW1]; exact hF.alloc _
        have k1 := KB1.cell 1
        have c2 := L1.blk.cell 2
        have f2 := L1.blk.frozen 2
        have f3 := L1.blk.frozen 3
        have z1 := L1.lt
        have zk := KB1.lt
        have c3 := L1.blk.cell 3
        simp at k1 c2 c3
        have zne : g ≠ wr.heap.size := by have := hL.lt; omega
        have HL1 := Lib.hid L1
        have HF1 := Lib.hid F1
        clear hL hF hZ htop hne hts hx KB1 L1 F1
        go_wp2_with fail
        rw [← hW1]
        clear hW1 q0 q1
        go_wp2_with fail
        go_region
        all_goals (
          go_wp2_with fail
          go_roundw
          case rel =>
            refine ⟨k + 1, by omega, by go_num, ?_, ((HF1.out.set (p := ⟨g, 2, none⟩) (.inr rfl) _).set (p := ⟨g, 3, none⟩) (.inr rfl) _).drew⟩
            have := (led_ack HL1.out (max M to)).drew
            rw [HT.out, HNE.out, Bool.not_false, Bool.or_true]
            have hZ : Z = max M to := by rw [← Z1]; split <;> omega
            rw [hZ]
            exact this
          case measure => simp [intOf]; omega)
      · have hd : decide (k < r.length) = false := by simpa using hlt
        have hk2 : r.take k = r := List.take_of_length_le (by omega)
        rw [hk2] at hL
        have hrr := HR.out.frm hF hrg
        have HWI := Lib.hid (within_any B d r wr hrr hrl)
        have HL := Lib.hid hL
        have HF := Lib.hid hF
        clear hL hF hrr hk2
        go_wp2_with fail
        refine HWI.out.mono ?_
        rintro e w3 ⟨X, Y, S, rfl, hp, hs, hra, hX, hY, hY2, b3⟩
        have L3 := HL.out.below b3
        have F3 := HF.out.then_below b3
        have hz3 := F3.size
        have hX3 : X < w3.heap.size := by obtain ⟨_, _, h1, _⟩ := hra; exact h1.lt
        have hgl := HL.out.lt
        have hup := ok.up
        have eA : ackL l r = l.op.filter (inR r) := if_pos E0.out
        have eL : lAck l r = ⟨l.op.filter (fun p => !inR r p), l.nx, topR l.ak r, l.hs || !r.isEmpty⟩ := if_pos E0.out
        have e0 := E0.out
        generalize topR l.ak r = M at *
        generalize (l.hs || !r.isEmpty) = Q at *
        rcases A with _ | a
        · have HRM := Lib.hid (remove_nil 39 #[.pointer (some ⟨X, 0, none⟩)] base g c _ w3 L3)
          have EE := Lib.hid (And.intro eA (And.intro eL e0))
          have FF := Lib.hid F3
          clear L3 F3 hra b3 HWI eA eL e0 hp hs
          go_wp2_with fail
          refine HRM.out.mono ?_
          rintro e w4 ⟨rfl, ho, h4, g4⟩
          change l.op = [] at ho
          obtain ⟨eA, eL, e0⟩ := EE.out
          have HO := Lib.hid ho
          have H4 := Lib.hid h4
          have G4 := Lib.hid g4
          have EE := Lib.hid (And.intro eA (And.intro eL e0))
          clear ho h4 g4 eA eL e0
          go_wp2_with fail
          obtain ⟨eA, eL, e0⟩ := EE.out
          have ho := HO.out
          have e1 : ackL l r = [] := by rw [eA, ho]; rfl
          refine bodyPost_ret (results_tmp2 rfl _ _ _) rfl ⟨none, 0, by rw [e1, e0]; rfl, ⟨by rw [e1]; exact OwnF.nil _ _, ⟨⟨none, 0, ?_, fun _ h => h⟩, (FF.out.mono (fun b _ hb => .inl hb)).grown G4.out (fun r hr => by injection hr with hr; exact .inr (.inl hr.symm))⟩⟩⟩
          rw [eL, ho]
          have := H4.out
          rw [ho] at this
          exact this
        · obtain ⟨gp, rfl⟩ : ∃ gp, a = ⟨gp, 0, none⟩ := by
            rcases L3.own.2 with ⟨h1, _⟩ | ⟨g', cap, cur, hv, _⟩
            · injection h1 with h1; cases h1
            · injection hv with h1; injection h1 with h1; exact ⟨g', h1⟩
          have hgpl : gp < wr.heap.size := OwnV.row_lt HL.out.own (by simp [Value.ownBlock])
          have HRM := Lib.hid (remove_some 39 #[.pointer (some ⟨X, 0, none⟩)] (inR r) (WiC l.op S X Y) (some X) base g gp c _ w3 L3 (within2_goes l.op hup r S hp hs X Y w3.heap.size gp ⟨hX3, by omega⟩ ⟨hY2, by omega⟩) (by intro e; injection e with e; omega) ⟨S, hra, fun _ _ => rfl⟩ hl)
          have EE := Lib.hid (And.intro eA (And.intro eL e0))
          have FF := Lib.hid F3
          clear L3 F3 hra b3 HWI eA eL e0 hp hs
          go_wp2_with fail
          refine HRM.out.mono ?_
          rintro e w4 ⟨A1, c1, rfl, ho, h4, f4⟩
          have HO := Lib.hid ho
          have H4 := Lib.hid h4
          have F4 := Lib.hid f4
          clear ho h4 f4
          go_wp2_with fail
          obtain ⟨eA, eL, e0⟩ := EE.out
          refine bodyPost_ret (results_tmp2 rfl _ _ _) rfl ⟨A1, c1, by rw [eA, e0]; rfl, ⟨by rw [eA]; exact OwnP.base_le HO.out hz3, ⟨⟨some ⟨gp, 0, none⟩, c, by rw [eL]; exact H4.out, fun _ h => h⟩, ?_⟩⟩⟩
          have f1 : Frm w w3 (fun b => LedS g (some ⟨gp, 0, none⟩) b ∨ b = X) := FF.out.mono (fun b _ hb => .inl (.inl hb))
          have f2 : Frm w3 w4 (fun b => LedS g (some ⟨gp, 0, none⟩) b ∨ b = X) := F4.out.mono (fun b _ hb => by
            rcases hb with h1 | h1 | h1
            · exact .inl (.inl h1)
            · exact .inl (.inr (by simp [Value.ownBlock, h1]))
            · injection h1 with h1; exact .inr h1.symm)
          have hwz := HF.out.size
          exact (f1.trans f2).mono (fun b hb hs => hs.elim id (fun e => by omega))
end Go.Proofs.Ytefhbiocddgijaa
